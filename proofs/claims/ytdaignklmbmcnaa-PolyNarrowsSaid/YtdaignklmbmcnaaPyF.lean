/-
  Drafts of intervals, the coefficients of drafts, part, within, Clone.
-/
import Derived.Test.YtdaignklmbmcnaaPyW
import Derived.Test.YtdaignklmbmcnaaSpS
import Derived.IntWalk
import Derived.Deep.QuietTactic
import Derived.BigQuiet
namespace Go.Proofs.Ytdaignklmbmcnaa
open Go.RowKit

/-- A small interval. -/
def Sml (c : Int × Int) : Prop := -68719476736 ≤ c.1 ∧ c.1 ≤ c.2 ∧ c.2 ≤ 73014444031
theorem Sml.ck {c : Int × Int} (h : Sml c) : ckS c.1 c.2 = 0 := by
  obtain ⟨h0, h1, h2⟩ := h
  exact ckS_ok (by omega) (by omega) (by omega)
set_option maxHeartbeats 1000000 in
theorem drSmall_bd (a b c : Int) (b0 : 0 ≤ b) (b1 : b ≤ 255) (c0 : 0 ≤ c) (c1 : c ≤ 4294967295) :
    ∃ lo hi : Int, Sml (lo, hi) ∧ ∀ w, Calls Try.prog 12 #[.agg #[.int .i64 a, .int .u8 b, .int .u32 c]] w fun r w' => r = .returned (.agg #[.int .i64 lo, .int .i64 hi]) ∧ Below w.heap.size w w' := by
  obtain ⟨p0, p1⟩ := pow2_bd (b % 37).toNat 37 (by omega) (by omega)
  obtain ⟨T, hT⟩ : ∃ T : Int, (2 : Int) ^ (b % 37).toNat = T := ⟨_, rfl⟩
  rw [hT] at p0 p1
  have p1' : T ≤ 68719476736 := p1
  have hw : wrap64 T = T := IntWalk.wrap64_in _ (by omega)
  have hw1 : wrap64 (T + 1) = T + 1 := IntWalk.wrap64_in _ (by omega)
  obtain ⟨t0, t1⟩ := tmod_bd a (T + 1) (by omega)
  obtain ⟨lo, hlo⟩ : ∃ lo, a.tmod (T + 1) = lo := ⟨_, rfl⟩
  rw [hlo] at t0 t1
  obtain ⟨S, hS⟩ : ∃ S : Int, (2 : Int) ^ (b % 32).toNat = S := ⟨_, rfl⟩
  have s0 : 1 ≤ S := by rw [← hS]; exact (pow2_bd (b % 32).toNat 32 (by omega) (by omega)).1
  have q0 : 0 ≤ c / S := Int.ediv_nonneg c0 (by omega)
  have q1 : c / S ≤ c := Int.ediv_le_self _ c0
  obtain ⟨q, hq⟩ : ∃ q, c / S = q := ⟨_, rfl⟩
  rw [hq] at q0 q1
  obtain ⟨hi, hhi⟩ : ∃ hi, lo + q = hi := ⟨_, rfl⟩
  have hw2 : wrap64 hi = hi := IntWalk.wrap64_in _ (by omega)
  have hne : (T + 1 == 0) = false := by simp; omega
  refine ⟨lo, hi, ⟨by simp only []; omega, by simp only []; omega, by simp only []; omega⟩, fun w => ?_⟩
  clear p1
  go_enter Try.func12, Try.ntmps12
  go_wp2
  exact bodyPost_ret (v := .agg #[.int .i64 lo, .int .i64 hi]) (by simp [results, Try.results12, go_sem]) rfl ⟨rfl, by (repeat (first | with_reducible exact Below.refl _ _ | with_reducible assumption | refine Below.alloc ?_ (by (try simp); try omega) _ | refine Below.setCell ?_ (by (try simp); try omega) _ | refine below_drewN ?_ _ | refine Below.drew ?_ | (with_reducible refine Below.trans ?_ (Below.mono (by assumption) (by (try simp); try omega)))))⟩

theorem pyWithin_true (p q l h : Int) (w : World) (h0 : l ≤ p) (h1 : q ≤ h) :
    Calls Try.prog 19 #[.agg #[.int .i64 p, .int .i64 q], .agg #[.int .i64 l, .int .i64 h]] w fun r w' => r = .returned (.bool true) ∧ Below w.heap.size w w' := by
  go_enter Try.func19, Try.ntmps19
  go_wp2
  go_ret
  exact ⟨rfl, by (repeat (first | with_reducible exact Below.refl _ _ | with_reducible assumption | refine Below.alloc ?_ (by (try simp); try omega) _ | refine Below.setCell ?_ (by (try simp); try omega) _ | refine below_drewN ?_ _ | refine Below.drew ?_ | (with_reducible refine Below.trans ?_ (Below.mono (by assumption) (by (try simp); try omega)))))⟩
set_option maxHeartbeats 4000000 in
theorem py_wrapU {n : Int} (h0 : 0 ≤ n) (h1 : n < 18446744073709551616) : IntKind.u64.wrap n = n := by
  have e : IntKind.u64.wrap n = n % 18446744073709551616 := by first | rfl | simp [IntKind.wrap, IntKind.bits, IntKind.signed]
  rw [e]; exact Int.emod_eq_of_lt h0 h1
theorem pyPart_any (a b v x : Int) (k : ckS a b = 0) (v0 : 0 ≤ v) (x0 : 0 ≤ x) :
    ∃ p q : Int, (a ≤ p ∧ p ≤ q ∧ q ≤ b) ∧ ∀ w, Calls Try.prog 18 #[.agg #[.int .i64 a, .int .i64 b], .int .u64 v, .int .u64 x] w fun r w' => r = .returned (.agg #[.int .i64 p, .int .i64 q]) ∧ Below w.heap.size w w' := by
  have va := valS k
  obtain ⟨s, hs⟩ : ∃ s, b - a + 1 = s := ⟨_, rfl⟩
  have s0 : 1 ≤ s := by omega
  have s1 : s ≤ 9007199254740993 := by omega
  have r0 := Int.emod_nonneg v (show s ≠ 0 by omega)
  have r1 := Int.emod_lt_of_pos v (show 0 < s by omega)
  have y0 := Int.emod_nonneg x (show s ≠ 0 by omega)
  have y1 := Int.emod_lt_of_pos x (show 0 < s by omega)
  have e4 : v.tmod s = v % s := Int.tmod_eq_emod_of_nonneg v0
  have e4' : x.tmod s = x % s := Int.tmod_eq_emod_of_nonneg x0
  generalize v % s = c at *
  generalize x % s = d at *
  refine ⟨min (a + c) (a + d), max (a + c) (a + d), ⟨by omega, by omega, by omega⟩, fun w => ?_⟩
  have hne : (s == 0) = false := by simp; omega
  obtain ⟨t, ht⟩ : ∃ t, b - a = t := ⟨_, rfl⟩
  have e1 : IntKind.i64.wrap (b - a) = t := by rw [ht]; exact IntWalk.i64_in _ (by omega)
  have e2 : IntKind.i64.wrap (t + 1) = s := by rw [← ht, hs]; exact IntWalk.i64_in _ (by omega)
  have e3 : IntKind.u64.wrap s = s := py_wrapU (by omega) (by omega)
  have e5 : IntKind.i64.wrap c = c := IntWalk.i64_in _ (by omega)
  have e5' : IntKind.i64.wrap d = d := IntWalk.i64_in _ (by omega)
  have e6 : IntKind.i64.wrap (a + c) = a + c := IntWalk.i64_in _ (by omega)
  have e6' : IntKind.i64.wrap (a + d) = a + d := IntWalk.i64_in _ (by omega)
  clear hs ht r0 r1 y0 y1 va k
  go_enter Try.func18, Try.ntmps18
  go_wp2
  go_quiet (fail)
  clear e1 e2 e3 e4 e4' e5 e5' e6 e6' hne
  go_wp2
  refine bodyPost_ret (v := .agg #[.int .i64 (min (a + c) (a + d)), .int .i64 (max (a + c) (a + d))]) (by simp [results, Try.results18, go_sem]) rfl ⟨rfl, by (repeat (first | with_reducible exact Below.refl _ _ | with_reducible assumption | refine Below.alloc ?_ (by (try simp); try omega) _ | refine Below.setCell ?_ (by (try simp); try omega) _ | refine below_drewN ?_ _ | refine Below.drew ?_ | (with_reducible refine Below.trans ?_ (Below.mono (by assumption) (by (try simp); try omega)))))⟩

/-- The slice value v holds drafts of intervals. -/
def Df (d : Int × Int × Int) : Prop := 0 ≤ d.2.1 ∧ d.2.1 ≤ 255 ∧ 0 ≤ d.2.2 ∧ d.2.2 ≤ 4294967295
def Dn (w : World) (v : Value) (l : List (Int × Int × Int)) : Prop :=
  ∃ a cap, v = .slice a l.length cap ∧ l.length ≤ 9223372036854775807 ∧ (∀ d ∈ l, Df d) ∧ (0 < l.length → ∃ b off, a = some ⟨b, off, none⟩ ∧ ∀ i, i < l.length → w.cell? ⟨b, off + i * 3, none⟩ = some (.int .i64 (l.getD i (0, 0, 0)).1) ∧ w.cell? ⟨b, off + i * 3 + 1, none⟩ = some (.int .u8 (l.getD i (0, 0, 0)).2.1) ∧ w.cell? ⟨b, off + i * 3 + 2, none⟩ = some (.int .u32 (l.getD i (0, 0, 0)).2.2))
theorem Dn.keep {w w' : World} {v : Value} {l : List (Int × Int × Int)} (h : Dn w v l) (hb : Below w.heap.size w w') : Dn w' v l := by
  obtain ⟨a, cap, rfl, hl, hd, hc⟩ := h
  refine ⟨a, cap, rfl, hl, hd, fun hi => ?_⟩
  obtain ⟨b, off, rfl, h⟩ := hc hi
  exact ⟨b, off, rfl, fun i hi => ⟨bkeep hb (h i hi).1, bkeep hb (h i hi).2.1, bkeep hb (h i hi).2.2⟩⟩
theorem ownsBelow {w w' : World} {base : Nat} {e : TypeId} {size n : Nat} {v : Value} {xs : List Value} (h : w.ownsRow base e size v n xs) (hb : Below w.heap.size w w') : w'.ownsRow base e size v n xs :=
  h.kept (row := none) ⟨hb.os, hb.tape, hb.output, hb.size, fun j hj _ => hb.block j hj⟩ (by cases h : v.ownBlock <;> simp)
/-- Coefficients in memory of the call's own. -/
def CfP (Q : Int × Int → Prop) (w : World) (l : List (Int × Int × Int)) (e : Ending) (w' : World) : Prop :=
  Below w.heap.size w w' ∧ ∃ u r, e = .returned u ∧ w'.ownsRow w.heap.size 24 2 u r.length (rowOf r) ∧ r.length = min l.length 8 ∧ (∀ c ∈ r, Q c) ∧ (r = [] → u = .slice none 0 0)
set_option maxRecDepth 100000 in
set_option maxHeartbeats 2000000 in
theorem coefsS_any (va : Value) (l : List (Int × Int × Int)) (w : World) (ha : Dn w va l) :
    Calls Try.prog 11 #[va, .bool true] w (CfP Sml w l) := by
  obtain ⟨i0, hi, hz0, hz1, hz2⟩ := span_parts
  obtain ⟨pa, cap, rfl, hl63, hdf, hc⟩ := ha
  have hmem : ∀ i, i < l.length → Df (l.getD i (0, 0, 0)) := fun i hi => hdf _ (by
    rw [List.getD_eq_getElem?_getD, List.getElem?_eq_getElem hi]; exact List.getElem_mem hi)
  clear hdf
  generalize hF : (fun i => l.getD i (0, 0, 0)) = F
  have hF' : ∀ i, l.getD i (0, 0, 0) = F i := fun i => by rw [← hF]
  simp only [hF'] at hc hmem
  obtain ⟨n, hn⟩ : ∃ n, l.length = n := ⟨_, rfl⟩
  rw [hn] at hc hmem hl63 ⊢
  replace hn := Lib.hid hn
  clear hF hF'
  go_enter Try.func11, Try.ntmps11
  go_wp2
  go_loopw [5, 6] (fun o i wr => ∃ (k : Nat) (r : List (Int × Int)), i = .int .i64 k ∧ k ≤ n ∧ k ≤ 8 ∧ r.length = k ∧ (∀ c ∈ r, Sml c) ∧ wr.ownsRow w.heap.size 24 2 o k (rowOf r) ∧ (k = 0 → o = .slice none 0 0) ∧ Below w.heap.size w wr)
    (fun _ i _ => 8 - (intOf i).toNat)
  case atStart => exact ⟨0, [], rfl, Nat.zero_le _, by omega, rfl, (fun c hc => by cases hc), World.ownsRow_nil w _ _ _, fun _ => rfl, Below.refl _ _⟩
  case round =>
    obtain ⟨k, r, rfl, hk, hk8, hrl, hr, hown, hnil, hB⟩ := hrel
    by_cases hk' : k < n
    · by_cases h8 : k < 8
      · obtain ⟨b, off, rfl, hcs⟩ := hc (by omega)
        obtain ⟨d0, d1, d2⟩ := hcs k hk'
        obtain ⟨g0, g1, g2, g3⟩ := hmem k hk'
        replace d0 := bkeep hB d0
        replace d1 := bkeep hB d1
        replace d2 := bkeep hB d2
        generalize (F k).1 = x0 at *
        generalize (F k).2.1 = x1 at *
        generalize (F k).2.2 = x2 at *
        obtain ⟨lo, hi_, hq, hw⟩ := drSmall_bd x0 x1 x2 g0 g1 g2 g3
        clear hc hcs hmem hnil
        have h8' : decide ((k : Int) < 8) = true := by simp; omega
        go_wp2_with fail
        go_at_call 12
        refine (hw _).mono ?_
        rintro e w1 ⟨rfl, hb1⟩
        have hown1 := ownsBelow hown hb1
        have B1 := hB.trans (hb1.mono hB.size)
        clear hown hb1 hw d0 d1 d2
        go_wp2_with (at_builtin; refine wpList_append_own _ rfl _ _ 22 rfl w.heap.size 24 i0 (.agg #[.int .i64 0, .int .i64 0]) 2 16 Try.underlying22 hi hz0 hz1 hz2 rfl (by decide) _ _ _ rfl (hown1.alloc _) ⟨w1.heap.size, 0, none⟩ 1 1 [.int .i64 lo, .int .i64 hi_] rfl rfl (two_at _ _ _ _) (two_cell _ _) (by unfold maxLen; omega) (by omega) (by have := B1.size; simp; omega) ?_)
        intro v' w2 hown' hgrow _
        have hb := (B1.alloc B1.size (.cells #[.int .i64 lo, .int .i64 hi_] 24)).grown hgrow (by have := B1.size; simp; omega) (fun k hk => (hown1.lt k hk).1)
        clear hown1 hgrow B1
        go_wp2
        go_roundw
        case rel =>
          refine ⟨k + 1, r ++ [(lo, hi_)], by simp, by omega, by omega, by simp [hrl], fun c hc => ?_, by rw [rowOf_append]; exact hown', fun h => by omega, hb⟩
          rcases List.mem_append.1 hc with h | h
          · exact hr c h
          · rw [List.mem_singleton.1 h]; exact hq
        case measure => simp [intOf]; omega
      · have h8' : decide ((k : Int) < 8) = false := by simp; omega
        have e8 : k = 8 := by omega
        clear hc hmem
        go_wp2
        go_ret
        exact ⟨hB, _, r, rfl, by rw [hrl]; exact hown, by have := hn.out; omega, hr, fun h => by rw [h] at hrl; simp at hrl; omega⟩
    · have hkn : k = n := by omega
      clear hc hmem
      go_wp2
      go_ret
      exact ⟨hB, _, r, rfl, by rw [hrl]; exact hown, by have := hn.out; omega, hr, fun h => hnil (by rw [h] at hrl; simpa using hrl.symm)⟩
set_option maxRecDepth 100000 in
set_option maxHeartbeats 2000000 in
theorem coefsB_any (va : Value) (l : List (Int × Int × Int)) (w : World) (ha : Dn w va l) :
    Calls Try.prog 11 #[va, .bool false] w (CfP (fun c => ckS c.1 c.2 = 0) w l) := by
  obtain ⟨i0, hi, hz0, hz1, hz2⟩ := span_parts
  obtain ⟨pa, cap, rfl, hl63, hdf, hc⟩ := ha
  have hmem : ∀ i, i < l.length → Df (l.getD i (0, 0, 0)) := fun i hi => hdf _ (by
    rw [List.getD_eq_getElem?_getD, List.getElem?_eq_getElem hi]; exact List.getElem_mem hi)
  clear hdf
  generalize hF : (fun i => l.getD i (0, 0, 0)) = F
  have hF' : ∀ i, l.getD i (0, 0, 0) = F i := fun i => by rw [← hF]
  simp only [hF'] at hc hmem
  obtain ⟨n, hn⟩ : ∃ n, l.length = n := ⟨_, rfl⟩
  rw [hn] at hc hmem hl63 ⊢
  replace hn := Lib.hid hn
  clear hF hF'
  go_enter Try.func11, Try.ntmps11
  go_wp2
  go_loopw [5, 6] (fun o i wr => ∃ (k : Nat) (r : List (Int × Int)), i = .int .i64 k ∧ k ≤ n ∧ k ≤ 8 ∧ r.length = k ∧ (∀ c ∈ r, (fun c => ckS c.1 c.2 = 0) c) ∧ wr.ownsRow w.heap.size 24 2 o k (rowOf r) ∧ (k = 0 → o = .slice none 0 0) ∧ Below w.heap.size w wr)
    (fun _ i _ => 8 - (intOf i).toNat)
  case atStart => exact ⟨0, [], rfl, Nat.zero_le _, by omega, rfl, (fun c hc => by cases hc), World.ownsRow_nil w _ _ _, fun _ => rfl, Below.refl _ _⟩
  case round =>
    obtain ⟨k, r, rfl, hk, hk8, hrl, hr, hown, hnil, hB⟩ := hrel
    by_cases hk' : k < n
    · by_cases h8 : k < 8
      · obtain ⟨b, off, rfl, hcs⟩ := hc (by omega)
        obtain ⟨d0, d1, d2⟩ := hcs k hk'
        obtain ⟨g0, g1, g2, g3⟩ := hmem k hk'
        replace d0 := bkeep hB d0
        replace d1 := bkeep hB d1
        replace d2 := bkeep hB d2
        generalize (F k).1 = x0 at *
        generalize (F k).2.1 = x1 at *
        generalize (F k).2.2 = x2 at *
        obtain ⟨lo, hi_, hq, hw⟩ := drSpan_any x0 x1 x2 g0 g1 g2 g3
        clear hc hcs hmem hnil
        have h8' : decide ((k : Int) < 8) = true := by simp; omega
        go_wp2_with fail
        go_at_call 27
        refine (hw _).mono ?_
        rintro e w1 ⟨rfl, hb1⟩
        have hown1 := ownsBelow hown hb1
        have B1 := hB.trans (hb1.mono hB.size)
        clear hown hb1 hw d0 d1 d2
        go_wp2_with (at_builtin; refine wpList_append_own _ rfl _ _ 22 rfl w.heap.size 24 i0 (.agg #[.int .i64 0, .int .i64 0]) 2 16 Try.underlying22 hi hz0 hz1 hz2 rfl (by decide) _ _ _ rfl (hown1.alloc _) ⟨w1.heap.size, 0, none⟩ 1 1 [.int .i64 lo, .int .i64 hi_] rfl rfl (two_at _ _ _ _) (two_cell _ _) (by unfold maxLen; omega) (by omega) (by have := B1.size; simp; omega) ?_)
        intro v' w2 hown' hgrow _
        have hb := (B1.alloc B1.size (.cells #[.int .i64 lo, .int .i64 hi_] 24)).grown hgrow (by have := B1.size; simp; omega) (fun k hk => (hown1.lt k hk).1)
        clear hown1 hgrow B1
        go_wp2
        go_roundw
        case rel =>
          refine ⟨k + 1, r ++ [(lo, hi_)], by simp, by omega, by omega, by simp [hrl], fun c hc => ?_, by rw [rowOf_append]; exact hown', fun h => by omega, hb⟩
          rcases List.mem_append.1 hc with h | h
          · exact hr c h
          · rw [List.mem_singleton.1 h]; exact hq
        case measure => simp [intOf]; omega
      · have h8' : decide ((k : Int) < 8) = false := by simp; omega
        have e8 : k = 8 := by omega
        clear hc hmem
        go_wp2
        go_ret
        exact ⟨hB, _, r, rfl, by rw [hrl]; exact hown, by have := hn.out; omega, hr, fun h => by rw [h] at hrl; simp at hrl; omega⟩
    · have hkn : k = n := by omega
      clear hc hmem
      go_wp2
      go_ret
      exact ⟨hB, _, r, rfl, by rw [hrl]; exact hown, by have := hn.out; omega, hr, fun h => hnil (by rw [h] at hrl; simpa using hrl.symm)⟩
end Go.Proofs.Ytdaignklmbmcnaa
