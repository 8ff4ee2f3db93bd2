/-
  The reference: Minus, Of.
-/
import Derived.Test.YtoppdbgodceaiaaDoorLrA
namespace Go.Proofs.YtoppdbgodceaiaaDoor
open Go.RowKit

theorem sg_not {x : Int} (b : Bool) (hb : b = decide (x < 0)) : (if (!b) = true then -(vl (dg (x.natAbs : Int))) else vl (dg (x.natAbs : Int))) = -x := by
  rw [dg_val _ (by omega), hb]; by_cases h : x < 0 <;> simp [h] <;> omega
set_option maxRecDepth 100000 in
set_option maxHeartbeats 1000000 in
theorem rminus_num (A : Value) (x : Int) (w : World) (hA : Lg w A x) (l1 : Dl x ≤ 100000) :
    Calls Tryd.prog 75 #[A] w fun e w' => LgV (-x) e w' ∧ Below w.heap.size w w' := by
  obtain ⟨s1, rfl, h1⟩ := hA
  obtain ⟨b, hb⟩ : ∃ b, b = decide (x < 0) := ⟨_, rfl⟩
  rw [← hb]
  have hm := fun w h => made_any (!b) s1 (dg (x.natAbs : Int)) w h (dg_dig _ (by omega)) l1
  rw [sg_not b hb] at hm
  clear hb
  have h1' := h1
  obtain ⟨pa, ca, rfl, _, _⟩ := h1'
  generalize dg (x.natAbs : Int) = l at *
  generalize l.length = n at *
  have hB : Below w.heap.size w ((w.alloc (.cells #[.bool b, .slice pa n ca] 24)).alloc (.cells #[.bool false, .slice none 0 0] 24)) := by (repeat (first | with_reducible exact Below.refl _ _ | with_reducible assumption | refine Below.alloc ?_ (by (try simp); try omega) _ | refine Below.setCell ?_ (by (try simp); try omega) _ | refine below_drewN ?_ _ | refine Below.drew ?_ | (with_reducible refine Below.trans ?_ (Below.mono (by assumption) (by (try simp); try omega)))))
  have bA : Bx ((w.alloc (.cells #[.bool b, .slice pa n ca] 24)).alloc (.cells #[.bool false, .slice none 0 0] 24)) (w.heap.size) (.bool b) (.slice pa n ca) 24 := by exact ((Bx.new w (.bool b) (.slice pa n ca) 24).alloc _)
  have bR : Bx ((w.alloc (.cells #[.bool b, .slice pa n ca] 24)).alloc (.cells #[.bool false, .slice none 0 0] 24)) (w.heap.size + 1) (.bool false) (.slice none 0 0) 24 := by have := (Bx.new (w.alloc (.cells #[.bool b, .slice pa n ca] 24)) (.bool false) (.slice none 0 0) 24); simpa using this
  have rbA0 := bA.c0
  have rbA1 := bA.c1
  replace h1 := h1.keep hB
  go_enter Tryd.func75, Tryd.ntmps75
  go_wp2_with fail
  go_at_call 63
  refine (hm _ h1).mono ?_
  rintro e w3 ⟨⟨p, pv, nv, cv, rfl, L⟩, hb3⟩
  replace bR := bR.keep hb3
  replace hB := hB.trans (hb3.mono hB.size)
  have rbR0 := bR.c0
  have rbR1 := bR.c1
  have zbR0 := bR.f 0
  have zbR1 := bR.f 1
  have lbR := bR.lt
  have hL := Lib.hid (L.put bR p pv nv cv)
  clear L h1 bA rbA0 rbA1 hm hb3
  go_wp2
  refine bodyPost_ret (v := .agg #[.bool p, .slice pv nv cv]) (by simp [results, Tryd.results75, go_sem, rbR0, rbR1, zbR0, zbR1, lbR]) rfl ⟨⟨_, _, _, _, rfl, hL.out⟩, by (repeat (first | with_reducible exact Below.refl _ _ | with_reducible assumption | refine Below.alloc ?_ (by (try simp); try omega) _ | refine Below.setCell ?_ (by (try simp); try omega) _ | refine below_drewN ?_ _ | refine Below.drew ?_ | (with_reducible refine Below.trans ?_ (Below.mono (by assumption) (by (try simp); try omega)))))⟩

theorem of_step {n m : Int} {l : List Int} (h : l ++ dg (m.natAbs : Int) = dg (n.natAbs : Int)) (hm : m ≠ 0) : l ++ [(m.natAbs : Int) % 1000000000] ++ dg (((m.tdiv 1000000000).natAbs : Nat) : Int) = dg (n.natAbs : Int) := by
  rw [← h, List.append_assoc, List.singleton_append, dg_pos (x := (m.natAbs : Int)) (by omega)]
  have e : ((m.tdiv 1000000000).natAbs : Int) = (m.natAbs : Int) / 1000000000 := by
    rw [Int.natAbs_tdiv]; show ((m.natAbs / 1000000000 : Nat) : Int) = _; omega
  rw [e]
set_option maxRecDepth 100000 in
set_option maxHeartbeats 1600000 in
theorem rof_num (n : Int) (w : World) (n0 : -9223372036854775808 ≤ n) (n1 : n ≤ 9223372036854775807) :
    Calls Tryd.prog 19 #[.int .i64 n] w fun e w' => LgV n e w' ∧ Below w.heap.size w w' := by
  obtain ⟨i0, hi, hz0, hz1, hz2⟩ := info_parts Tryd.infoInt
  have hB : Below w.heap.size w (w.alloc (.cells #[.bool false, .slice none 0 0] 24)) := by (repeat (first | with_reducible exact Below.refl _ _ | with_reducible assumption | refine Below.alloc ?_ (by (try simp); try omega) _ | refine Below.setCell ?_ (by (try simp); try omega) _ | refine below_drewN ?_ _ | refine Below.drew ?_ | (with_reducible refine Below.trans ?_ (Below.mono (by assumption) (by (try simp); try omega)))))
  have bR : Bx (w.alloc (.cells #[.bool false, .slice none 0 0] 24)) (w.heap.size) (.bool false) (.slice none 0 0) 24 := by exact (Bx.new w (.bool false) (.slice none 0 0) 24)
  have hsz : (w.alloc (.cells #[.bool false, .slice none 0 0] 24)).heap.size = w.heap.size + 1 := by simp
  have hlen : (dg (n.natAbs : Int)).length ≤ 3 := dg_len_le (by omega) (by omega)
  have HV : Hid (numL (decide (n < 0)) (dg (n.natAbs : Int)) = n) := Lib.hid (by
    unfold numL
    rw [dg_val _ (by omega)]; by_cases h : n < 0 <;> simp [h] <;> omega)
  go_enter Tryd.func19, Tryd.ntmps19
  go_wp2
  generalize (w.alloc (.cells #[.bool false, .slice none 0 0] 24)) = w1 at *
  go_loopw [0, 3] (fun n' v wr => ∃ (m : Int) (l : List Int), n' = .int .i64 m ∧ -9223372036854775808 ≤ m ∧ m ≤ 9223372036854775807 ∧ l.length + (dg (m.natAbs : Int)).length ≤ 3 ∧ Hid (l ++ dg (m.natAbs : Int) = dg (n.natAbs : Int)) ∧ wr.ownsRow (w.heap.size + 1) 3 1 v l.length (l.map (Value.int .i64)) ∧ Below (w.heap.size + 1) w1 wr)
    (fun n' _ _ => (intOf n').natAbs)
  case atStart => exact ⟨n, [], rfl, n0, n1, by simpa using hlen, Lib.hid (by simp), World.ownsRow_nil _ _ _ _, by rw [← hsz]; exact Below.refl _ _⟩
  case round =>
    clear hlen
    obtain ⟨m, l, rfl, m0, m1, lk, hv, hown, hnx⟩ := hrel
    have bW := bR.keepB hnx (by omega)
    have hBr : Below w.heap.size w wr := hB.trans (hnx.mono (by omega))
    by_cases hm : m = 0
    · subst hm
      have e := hv.out
      rw [show (((0 : Int).natAbs : Nat) : Int) = 0 from rfl, dg_zero, List.append_nil] at e
      have hls := Ls.own hown
      have hdl : Dg l := by rw [e]; exact dg_dig _ (by omega)
      rw [show (((0 : Int).natAbs : Nat) : Int) = 0 from rfl, dg_zero] at lk
      have HE := Lib.hid e
      clear e hv hown
      go_wp2_with fail
      go_at_call 63
      refine (made_any _ _ l wr hls hdl (by simp at lk; omega)).mono ?_
      rintro e w3 ⟨⟨p, pv, nv, cv, rfl, L⟩, hb3⟩
      replace L : Lg w3 _ (numL (decide (n < 0)) l) := L
      rw [HE.out, HV.out] at L
      replace bW := bW.keep hb3
      replace hBr := hBr.trans (hb3.mono hBr.size)
      have rbW0 := bW.c0
      have rbW1 := bW.c1
      have zbW0 := bW.f 0
      have zbW1 := bW.f 1
      have lbW := bW.lt
      have hL := Lib.hid (L.put bW p pv nv cv)
      clear L hls hb3 hnx bR hB
      go_wp2
      refine bodyPost_ret (v := .agg #[.bool p, .slice pv nv cv]) (by simp [results, Tryd.results19, go_sem, rbW0, rbW1, zbW0, zbW1, lbW]) rfl ⟨⟨_, _, _, _, rfl, hL.out⟩, by (repeat (first | with_reducible exact Below.refl _ _ | with_reducible assumption | refine Below.alloc ?_ (by (try simp); try omega) _ | refine Below.setCell ?_ (by (try simp); try omega) _ | refine below_drewN ?_ _ | refine Below.drew ?_ | (with_reducible refine Below.trans ?_ (Below.mono (by assumption) (by (try simp); try omega)))))⟩
    · have hv' := of_step hv.out hm
      have hll : l.length + 1 + (dg (((m.tdiv 1000000000).natAbs : Nat) : Int)).length ≤ 3 := by
        have := congrArg List.length hv'
        have h2 := congrArg List.length hv.out
        simp only [List.length_append, List.length_singleton] at this h2
        omega
      have hq := Int.mul_tdiv_add_tmod m 1000000000
      have hmod : (m.tmod 1000000000 < 0 → -(m.tmod 1000000000) = (m.natAbs : Int) % 1000000000) ∧ (¬ m.tmod 1000000000 < 0 → m.tmod 1000000000 = (m.natAbs : Int) % 1000000000) ∧ -1000000000 < m.tmod 1000000000 ∧ m.tmod 1000000000 < 1000000000 := by
        have e1 := Int.natAbs_tmod m 1000000000
        rcases (by omega : 0 ≤ m ∨ m < 0) with h | h
        · have := Int.tmod_eq_emod_of_nonneg (b := 1000000000) h; omega
        · have := Int.tmod_eq_emod_of_nonneg (a := -m) (b := 1000000000) (by omega)
          rw [Int.neg_tmod] at this; omega
      have hqB : -9223372036854775808 ≤ m.tdiv 1000000000 ∧ m.tdiv 1000000000 ≤ 9223372036854775807 := by omega
      have hqb : (m.tdiv 1000000000).natAbs < m.natAbs := by rw [Int.natAbs_tdiv]; show m.natAbs / 1000000000 < _; omega
      obtain ⟨q, hqq⟩ : ∃ q, m.tdiv 1000000000 = q := ⟨_, rfl⟩
      obtain ⟨r, hr⟩ : ∃ r, m.tmod 1000000000 = r := ⟨_, rfl⟩
      rw [hqq] at hv' hll hqb hq hqB
      rw [hr] at hmod hq
      obtain ⟨D, hD⟩ : ∃ D, (m.natAbs : Int) % 1000000000 = D := ⟨_, rfl⟩
      rw [hD] at hv' hmod
      have HV2 := Lib.hid hv'
      have HDD := Lib.hid hD
      have Hq := Lib.hid hqb
      clear hv hv' lk bW hq hD hqb
      by_cases hrn : r < 0
      all_goals
        first
          | (have er : -r = D := hmod.1 hrn)
          | (have er : r = D := hmod.2.1 hrn)
        have bD : -1000000000 < r ∧ r < 1000000000 := ⟨hmod.2.2.1, hmod.2.2.2⟩
        clear hmod
        go_wp2_with (at_builtin; refine wpList_append_own _ rfl _ _ 22 rfl (w.heap.size + 1) 3 i0 (.int .i64 0) 1 8 Tryd.underlying22 hi hz0 hz1 hz2 rfl (by decide) _ _ _ rfl (hown.alloc _) ⟨wr.heap.size, 0, none⟩ 1 1 [.int .i64 D] rfl rfl (by first | exact one_at _ _ _ | (rw [← er]; exact one_at _ _ _)) (one_cell _ _) (by unfold maxLen; omega) (by omega) (by have := hnx.size; simp only [World.size_alloc]; omega) ?_)
        intro v' w2 hown' hgrow _
        have hb := (hnx.alloc (by have := hnx.size; omega) (.cells #[.int .i64 D] 3)).grown hgrow (by have := hnx.size; simp only [World.size_alloc]; omega) (fun k hk => (hown.lt k hk).1)
        clear hown hgrow hnx hBr
        go_wp2
        go_roundw
        case rel =>
          exact ⟨q, l ++ [D], rfl, by omega, by omega, by simp; omega, HV2, by rw [List.length_append, List.map_append]; exact hown', hb⟩
        case measure => simp [intOf]; exact Hq.out

end Go.Proofs.YtoppdbgodceaiaaDoor
