/-
  Walks of package long: Of.
-/
import Derived.Test.YtoppdbgodceaiaaDoorLgX
namespace Go.Proofs.YtoppdbgodceaiaaDoor
open Go.RowKit

theorem Bx.keepB {w w' : World} {g B : Nat} {x y : Value} {t : TypeId} (h : Bx w g x y t) (hb : Below B w w') (hg : g < B) : Bx w' g x y t := by
  unfold Bx at *
  rw [hb.block g hg]; exact h
/-- The size of an int, as the conversions give it. -/
theorem size_pos (n : Int) (h : 0 ≤ n) (h1 : n ≤ 9223372036854775807) : IntKind.u64.wrap n = (n.natAbs : Int) := by rw [wrap_in n h (by omega)]; omega
theorem size_neg (n : Int) (h : n < 0) (h1 : -9223372036854775808 ≤ n) : IntKind.u64.wrap (-(IntKind.u64.wrap n)) = (n.natAbs : Int) := by
  rw [IntKind.wrap_u64, IntKind.wrap_u64]; omega
set_option maxRecDepth 100000 in
set_option maxHeartbeats 1600000 in
theorem of_any (n : Int) (w : World) (n0 : -9223372036854775808 ≤ n) (n1 : n ≤ 9223372036854775807) :
    Calls Tryd.prog 18 #[.int .i64 n] w fun e w' => ∃ V, e = .returned V ∧ Lg w' V n ∧ Below w.heap.size w w' := by
  obtain ⟨i0, hi, hz0, hz1, hz2⟩ := info_parts Tryd.infoInt
  have bR : Bx (w.alloc (.cells #[.bool false, .slice none 0 0] 24)) w.heap.size (.bool false) (.slice none 0 0) 24 := Bx.new w _ _ _
  have a1 := Below.alloc (Below.refl w.heap.size w) (Nat.le_refl _) (.cells #[.bool false, .slice none 0 0] 24)
  have hsz : (w.alloc (.cells #[.bool false, .slice none 0 0] 24)).heap.size = w.heap.size + 1 := by simp
  obtain ⟨M, hM⟩ : ∃ M : Int, M = n.natAbs := ⟨_, rfl⟩
  have bM : 0 ≤ M ∧ M ≤ 9223372036854775808 := by omega
  have hlen : (dg M).length ≤ 3 := dg_len_le (by omega) (by omega)
  by_cases hn : n < 0
  all_goals
    first
      | have e1 := size_neg n hn n0
      | have e1 := size_pos n (by omega) n1
    rw [← hM] at e1
    have HM := Lib.hid hM
    clear hM
    go_enter Tryd.func18, Tryd.ntmps18
    go_wp2
    go_loopw [3, 4] (fun n' v wr => ∃ (m : Int) (l : List Int), n' = .int .u64 m ∧ 0 ≤ m ∧ m ≤ 9223372036854775808 ∧ l.length + (dg m).length ≤ 3 ∧ Hid (l ++ dg m = dg M) ∧ wr.ownsRow (w.heap.size + 1) 3 1 v l.length (l.map (Value.int .i64)) ∧ Below (w.heap.size + 1) (w.alloc (.cells #[.bool false, .slice none 0 0] 24)) wr)
      (fun n' _ _ => (intOf n').toNat)
    case atStart => exact ⟨M, [], by first | rfl | rw [e1], bM.1, bM.2, by simpa using hlen, Lib.hid (by simp), World.ownsRow_nil _ _ _ _, Below.refl _ _⟩
    case round =>
      clear e1 hlen bM
      obtain ⟨m, l, rfl, m0, m1, lk, hv, hown, hnx⟩ := hrel
      have bW := bR.keepB hnx (by omega)
      by_cases hm : m = 0
      · subst hm
        have e := hv.out
        rw [dg_zero, List.append_nil] at e
        have hls := Ls.own hown
        rw [e, HM.out] at hls
        have hls' := hls
        obtain ⟨pv, cv, hve, _, _⟩ := hls
        subst hve
        have r0 := bW.c0
        have r1 := bW.c1
        have z0 := bW.f 0
        have z1 := bW.f 1
        have hz5 := bW.lt
        have hB : Below w.heap.size w wr := a1.trans (hnx.mono (Nat.le_succ _))
        clear hown hv e hi hz0 hz1 hz2 hnx a1 bR
        go_wp2
        first
          | refine bodyPost_ret (v := .agg #[.bool true, .slice pv (dg (n.natAbs : Int)).length cv]) (by simp [results, Tryd.results18, go_sem, hz5, r0, r1, z0, z1]) rfl ⟨_, rfl, ⟨_, by rw [show decide (n < 0) = true by simpa using hn], hls'.boxed bW (nb _) (ns _ _ _) _⟩, by (repeat (first | with_reducible exact Below.refl _ _ | with_reducible assumption | refine Below.alloc ?_ (by (try simp); try omega) _ | refine Below.setCell ?_ (by (try simp); try omega) _ | refine below_drewN ?_ _ | refine Below.drew ?_ | (with_reducible refine Below.trans ?_ (Below.mono (by assumption) (by (try simp); try omega)))))⟩
          | refine bodyPost_ret (v := .agg #[.bool false, .slice pv (dg (n.natAbs : Int)).length cv]) (by simp [results, Tryd.results18, go_sem, hz5, r0, r1, z0, z1, hn]) rfl ⟨_, rfl, ⟨_, by rw [show decide (n < 0) = false by simpa using hn], hls'.boxed bW (nb _) (ns _ _ _) _⟩, by (repeat (first | with_reducible exact Below.refl _ _ | with_reducible assumption | refine Below.alloc ?_ (by (try simp); try omega) _ | refine Below.setCell ?_ (by (try simp); try omega) _ | refine below_drewN ?_ _ | refine Below.drew ?_ | (with_reducible refine Below.trans ?_ (Below.mono (by assumption) (by (try simp); try omega)))))⟩
      · have hm1 : 0 < m := by omega
        have hv' := hv.out
        rw [dg_pos hm1, ← List.singleton_append, ← List.append_assoc] at hv'
        have hll : l.length + 1 + (dg (m / 1000000000)).length ≤ 3 := by rw [dg_pos hm1] at lk; simp at lk; omega
        have e2 : IntKind.i64.wrap (m % 1000000000) = m % 1000000000 := IntWalk.i64_in _ (by omega)
        have HV := Lib.hid hv'
        clear hv hv' lk bW
        go_wp2_with (at_builtin; refine wpList_append_own _ rfl _ _ 77 rfl (w.heap.size + 1) 3 i0 (.int .i64 0) 1 8 Tryd.underlying77 hi hz0 hz1 hz2 rfl (by decide) _ _ _ rfl (hown.alloc _) ⟨wr.heap.size, 0, none⟩ 1 1 [.int .i64 (m % 1000000000)] rfl rfl (one_at _ _ _) (one_cell _ _) (by unfold maxLen; omega) (by omega) (by have := hnx.size; simp at this ⊢; omega) ?_)
        intro v' w1 hown' hgrow _
        have hb := (hnx.alloc (by have := hnx.size; simpa using this) (.cells #[.int .i64 (m % 1000000000)] 3)).grown hgrow (by have := hnx.size; simp at this ⊢; omega) (fun k hk => (hown.lt k hk).1)
        clear hown hgrow hnx
        go_wp2
        go_roundw
        case rel =>
          refine ⟨m / 1000000000, l ++ [m % 1000000000], rfl, by omega, by omega, by simp; omega, HV, by rw [List.length_append, List.map_append]; exact hown', hb⟩
        case measure => simp [intOf]; omega
end Go.Proofs.YtoppdbgodceaiaaDoor
