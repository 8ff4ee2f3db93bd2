/-
  LongMakes: Int of the reference for any long integers, and the walk.
-/
import Derived.Test.YtoppdbgodceaiaaDoorLrJ
import Derived.Test.YtoppdbgodceaiaaDoorLrS
import Derived.Deep.Cut
namespace Go.Proofs.YtoppdbgodceaiaaDoor
open Go.RowKit

theorem cmpI_neg_iff (x y : Int) : (cmpI x y < 0 ↔ x < y) ∧ (0 < cmpI x y ↔ y < x) := by
  unfold cmpI
  by_cases h1 : x < y
  · rw [if_pos h1]; omega
  · by_cases h2 : x = y
    · rw [if_neg h1, if_pos h2]; omega
    · rw [if_neg h1, if_neg h2]; omega
theorem vl_drop_le {l : List Int} (h : Dg l) (k : Nat) (hk : k ≤ l.length) : 0 ≤ vl (l.drop k) ∧ vl (l.drop k) ≤ vl l := by
  have e : vl l = vl (l.take k) + 1000000000 ^ k * vl (l.drop k) := val_cut' 1000000000 l k hk
  have h0 := vl_nonneg (h.drop k)
  have h1 := vl_nonneg (h.take k)
  have hp := pow9 k
  have := Int.mul_le_mul_of_nonneg_right (show (1 : Int) ≤ 1000000000 ^ k by omega) h0
  exact ⟨h0, by omega⟩
theorem vl_drop_pred {l : List Int} {j : Nat} (hj : j < l.length) : vl (l.drop j) = el l j + 1000000000 * vl (l.drop (j + 1)) := by
  have := val_drop_pred 1000000000 l j hj
  rw [← el_eq] at this
  exact this
set_option maxRecDepth 100000 in
set_option maxHeartbeats 2000000 in
theorem rint_big_true (s1 : Value) (l : List Int) (w : World) (h1 : Ls w s1 l) (ll : l.length ≤ 2000) (c1 : ckL true l = 0) (hr : (intR (sg true (vl l))).2 = 6 ∧ (sg true (vl l) < -9223372036854775808 ∨ 9223372036854775807 < sg true (vl l))) :
    Calls Tryd.prog 24 #[.agg #[.bool true, s1]] w fun e w' => e = .returned (.tuple #[.int .i64 0, .int .i64 6]) ∧ Below w.heap.size w w' := by
  have hr1 := fun w h => rright_any true s1 l w h (by omega)
  rw [c1, dec00] at hr1
  have hdl := ((okD_iff l).1 (ck_ok c1)).1
  have LA := (lg_any h1 c1).1
  have hDl := (lg_any h1 c1).2
  rw [show numL true l = sg true (vl l) from rfl] at LA hDl
  have h1' := h1
  obtain ⟨pa, ca, rfl, _, hpa⟩ := h1'
  obtain ⟨X, hX⟩ : ∃ X, sg true (vl l) = X := ⟨_, rfl⟩
  rw [hX] at LA hDl hr
  obtain ⟨n1, hn1⟩ : ∃ n1, l.length = n1 := ⟨_, rfl⟩
  rw [hn1] at h1 hr1 LA ⊢
  have ho1 := fun w V U h h' => rorder_num V U X (-9223372036854775808) w h h' (by omega) (Nat.le_trans (Dl_three (by omega) (by omega)) (by omega))
  have ho2 := fun w V U h h' => rorder_num V U X 9223372036854775807 w h h' (by omega) (Nat.le_trans (Dl_three (by omega) (by omega)) (by omega))
  have k1 := cmpI_neg_iff X (-9223372036854775808)
  have k2 := cmpI_neg_iff X 9223372036854775807
  generalize cmpI X (-9223372036854775808) = C1 at *
  generalize cmpI X 9223372036854775807 = C2 at *
  have hXh := Lib.hid hX
  clear hX c1
  have hB : Below w.heap.size w (w.alloc (.cells #[.bool true, .slice pa n1 ca] 24)) := by (repeat (first | with_reducible exact Below.refl _ _ | with_reducible assumption | refine Below.alloc ?_ (by (try simp); try omega) _ | refine Below.setCell ?_ (by (try simp); try omega) _ | refine below_drewN ?_ _ | refine Below.drew ?_ | (with_reducible refine Below.trans ?_ (Below.mono (by assumption) (by (try simp); try omega)))))
  have bA : Bx (w.alloc (.cells #[.bool true, .slice pa n1 ca] 24)) (w.heap.size) (.bool true) (.slice pa n1 ca) 24 := by exact (Bx.new w (.bool true) (.slice pa n1 ca) 24)
  have rbA0 := bA.c0
  have rbA1 := bA.c1
  replace h1 := h1.keep hB
  replace LA := LA.keep hB
  go_enter Tryd.func24, Tryd.ntmps24
  go_wp2_with fail
  go_at_call 66
  refine (hr1 _ h1).mono ?_
  rintro e u1 ⟨rfl, hb⟩
  replace bA := bA.keep hb
  replace h1 := h1.keep hb
  replace LA := LA.keep hb
  replace hB := hB.trans (hb.mono hB.size)
  clear rbA0 rbA1 hb hr1
  go_wp2_with fail
  go_at_call 19
  refine (rof_num (-9223372036854775808) u1 (by omega) (by omega)).mono ?_
  rintro e u2 ⟨⟨pL, aL, nL, cL, rfl, LL⟩, hb⟩
  replace bA := bA.keep hb
  replace h1 := h1.keep hb
  replace LA := LA.keep hb
  replace hB := hB.trans (hb.mono hB.size)
  clear hb
  go_wp2_with fail
  go_at_call 19
  refine (rof_num 9223372036854775807 u2 (by omega) (by omega)).mono ?_
  rintro e u3 ⟨⟨pM, aM, nM, cM, rfl, LM⟩, hb⟩
  replace bA := bA.keep hb
  replace h1 := h1.keep hb
  replace LA := LA.keep hb
  replace LL := LL.keep hb
  replace hB := hB.trans (hb.mono hB.size)
  clear hb
  have hX : Below u3.heap.size u3 ((u3.alloc (.cells #[.bool pL, .slice aL nL cL] 24)).alloc (.cells #[.bool pM, .slice aM nM cM] 24)) := by (repeat (first | with_reducible exact Below.refl _ _ | with_reducible assumption | refine Below.alloc ?_ (by (try simp); try omega) _ | refine Below.setCell ?_ (by (try simp); try omega) _ | refine below_drewN ?_ _ | refine Below.drew ?_ | (with_reducible refine Below.trans ?_ (Below.mono (by assumption) (by (try simp); try omega)))))
  have bL : Bx ((u3.alloc (.cells #[.bool pL, .slice aL nL cL] 24)).alloc (.cells #[.bool pM, .slice aM nM cM] 24)) (u3.heap.size) (.bool pL) (.slice aL nL cL) 24 := by exact ((Bx.new u3 (.bool pL) (.slice aL nL cL) 24).alloc (.cells #[.bool pM, .slice aM nM cM] 24))
  have bM : Bx ((u3.alloc (.cells #[.bool pL, .slice aL nL cL] 24)).alloc (.cells #[.bool pM, .slice aM nM cM] 24)) (u3.heap.size + 1) (.bool pM) (.slice aM nM cM) 24 := by have := (Bx.new (u3.alloc (.cells #[.bool pL, .slice aL nL cL] 24)) (.bool pM) (.slice aM nM cM) 24); simpa using this
  have rA0 := (bA.keep hX).c0
  have rA1 := (bA.keep hX).c1
  go_wp2_with fail
  replace bA := bA.keep hX
  replace h1 := h1.keep hX
  replace LA := LA.keep hX
  replace LL := LL.keep hX
  replace LM := LM.keep hX
  replace hB := hB.trans (hX.mono hB.size)
  clear hX rA0 rA1
  generalize ((u3.alloc (.cells #[.bool pL, .slice aL nL cL] 24)).alloc (.cells #[.bool pM, .slice aM nM cM] 24)) = v3 at *
  go_at_call 67
  refine (ho1 _ _ _ LA LL).mono ?_
  rintro e u4 ⟨rfl, hb⟩
  replace bA := bA.keep hb
  replace bM := bM.keep hb
  replace h1 := h1.keep hb
  replace LA := LA.keep hb
  replace LM := LM.keep hb
  replace hB := hB.trans (hb.mono hB.size)
  have rA0 := bA.c0
  have rA1 := bA.c1
  have rM0 := bM.c0
  have rM1 := bM.c1
  clear hb LL bL ho1
  by_cases hlo : X < -9223372036854775808
  · have hC : C1 < 0 := k1.1.2 hlo
    clear k1 k2 hr
    go_wp2
    go_ret2
    exact ⟨rfl, hB⟩
  · have hC : ¬ C1 < 0 := fun h => hlo (k1.1.1 h)
    have hC2 : 0 < C2 := k2.2.2 (by have := hr.2; omega)
    clear k1 k2 hr
    go_wp2_with fail
    go_at_call 67
    refine (ho2 _ _ _ LA LM).mono ?_
    rintro e u5 ⟨rfl, hb⟩
    replace hB := hB.trans (hb.mono hB.size)
    go_wp2
    go_ret2
    exact ⟨rfl, hB⟩
set_option maxRecDepth 100000 in
set_option maxHeartbeats 2000000 in
theorem rint_in_true (s1 : Value) (l : List Int) (w : World) (h1 : Ls w s1 l) (ll : l.length ≤ 2000) (c1 : ckL true l = 0) (hr : -9223372036854775808 ≤ sg true (vl l) ∧ sg true (vl l) ≤ 9223372036854775807) :
    Calls Tryd.prog 24 #[.agg #[.bool true, s1]] w fun e w' => e = .returned (.tuple #[.int .i64 (sg true (vl l)), .int .i64 0]) ∧ Below w.heap.size w w' := by
  have hr1 := fun w h => rright_any true s1 l w h (by omega)
  rw [c1, dec00] at hr1
  have hdl := ((okD_iff l).1 (ck_ok c1)).1
  have LA := (lg_any h1 c1).1
  have hDl := (lg_any h1 c1).2
  rw [show numL true l = sg true (vl l) from rfl] at LA hDl
  have h1' := h1
  obtain ⟨pa, ca, rfl, _, hpa⟩ := h1'
  obtain ⟨X, hX⟩ : ∃ X, sg true (vl l) = X := ⟨_, rfl⟩
  rw [hX] at LA hDl hr ⊢
  obtain ⟨n1, hn1⟩ : ∃ n1, l.length = n1 := ⟨_, rfl⟩
  rw [hn1] at h1 hr1 LA ⊢
  have ho1 := fun w V U h h' => rorder_num V U X (-9223372036854775808) w h h' (by omega) (Nat.le_trans (Dl_three (by omega) (by omega)) (by omega))
  have ho2 := fun w V U h h' => rorder_num V U X 9223372036854775807 w h h' (by omega) (Nat.le_trans (Dl_three (by omega) (by omega)) (by omega))
  have k1 := cmpI_neg_iff X (-9223372036854775808)
  have k2 := cmpI_neg_iff X 9223372036854775807
  generalize cmpI X (-9223372036854775808) = C1 at *
  generalize cmpI X 9223372036854775807 = C2 at *
  have hXh := Lib.hid hX
  clear hX c1
  have hB : Below w.heap.size w (w.alloc (.cells #[.bool true, .slice pa n1 ca] 24)) := by (repeat (first | with_reducible exact Below.refl _ _ | with_reducible assumption | refine Below.alloc ?_ (by (try simp); try omega) _ | refine Below.setCell ?_ (by (try simp); try omega) _ | refine below_drewN ?_ _ | refine Below.drew ?_ | (with_reducible refine Below.trans ?_ (Below.mono (by assumption) (by (try simp); try omega)))))
  have bA : Bx (w.alloc (.cells #[.bool true, .slice pa n1 ca] 24)) (w.heap.size) (.bool true) (.slice pa n1 ca) 24 := by exact (Bx.new w (.bool true) (.slice pa n1 ca) 24)
  have rbA0 := bA.c0
  have rbA1 := bA.c1
  replace h1 := h1.keep hB
  replace LA := LA.keep hB
  go_enter Tryd.func24, Tryd.ntmps24
  go_wp2_with fail
  go_at_call 66
  refine (hr1 _ h1).mono ?_
  rintro e u1 ⟨rfl, hb⟩
  replace bA := bA.keep hb
  replace h1 := h1.keep hb
  replace LA := LA.keep hb
  replace hB := hB.trans (hb.mono hB.size)
  clear rbA0 rbA1 hb hr1
  go_wp2_with fail
  go_at_call 19
  refine (rof_num (-9223372036854775808) u1 (by omega) (by omega)).mono ?_
  rintro e u2 ⟨⟨pL, aL, nL, cL, rfl, LL⟩, hb⟩
  replace bA := bA.keep hb
  replace h1 := h1.keep hb
  replace LA := LA.keep hb
  replace hB := hB.trans (hb.mono hB.size)
  clear hb
  go_wp2_with fail
  go_at_call 19
  refine (rof_num 9223372036854775807 u2 (by omega) (by omega)).mono ?_
  rintro e u3 ⟨⟨pM, aM, nM, cM, rfl, LM⟩, hb⟩
  replace bA := bA.keep hb
  replace h1 := h1.keep hb
  replace LA := LA.keep hb
  replace LL := LL.keep hb
  replace hB := hB.trans (hb.mono hB.size)
  clear hb
  have hX : Below u3.heap.size u3 ((u3.alloc (.cells #[.bool pL, .slice aL nL cL] 24)).alloc (.cells #[.bool pM, .slice aM nM cM] 24)) := by (repeat (first | with_reducible exact Below.refl _ _ | with_reducible assumption | refine Below.alloc ?_ (by (try simp); try omega) _ | refine Below.setCell ?_ (by (try simp); try omega) _ | refine below_drewN ?_ _ | refine Below.drew ?_ | (with_reducible refine Below.trans ?_ (Below.mono (by assumption) (by (try simp); try omega)))))
  have bL : Bx ((u3.alloc (.cells #[.bool pL, .slice aL nL cL] 24)).alloc (.cells #[.bool pM, .slice aM nM cM] 24)) (u3.heap.size) (.bool pL) (.slice aL nL cL) 24 := by exact ((Bx.new u3 (.bool pL) (.slice aL nL cL) 24).alloc (.cells #[.bool pM, .slice aM nM cM] 24))
  have bM : Bx ((u3.alloc (.cells #[.bool pL, .slice aL nL cL] 24)).alloc (.cells #[.bool pM, .slice aM nM cM] 24)) (u3.heap.size + 1) (.bool pM) (.slice aM nM cM) 24 := by have := (Bx.new (u3.alloc (.cells #[.bool pL, .slice aL nL cL] 24)) (.bool pM) (.slice aM nM cM) 24); simpa using this
  have rA0 := (bA.keep hX).c0
  have rA1 := (bA.keep hX).c1
  go_wp2_with fail
  replace bA := bA.keep hX
  replace h1 := h1.keep hX
  replace LA := LA.keep hX
  replace LL := LL.keep hX
  replace LM := LM.keep hX
  replace hB := hB.trans (hX.mono hB.size)
  clear hX rA0 rA1
  generalize ((u3.alloc (.cells #[.bool pL, .slice aL nL cL] 24)).alloc (.cells #[.bool pM, .slice aM nM cM] 24)) = v3 at *
  go_at_call 67
  refine (ho1 _ _ _ LA LL).mono ?_
  rintro e u4 ⟨rfl, hb⟩
  replace bA := bA.keep hb
  replace bM := bM.keep hb
  replace h1 := h1.keep hb
  replace LA := LA.keep hb
  replace LM := LM.keep hb
  replace hB := hB.trans (hb.mono hB.size)
  have rA0 := bA.c0
  have rA1 := bA.c1
  have rM0 := bM.c0
  have rM1 := bM.c1
  clear hb LL bL ho1
  have hC : ¬ C1 < 0 := fun h => by have := k1.1.1 h; omega
  have hC2 : ¬ 0 < C2 := fun h => by have := k2.2.1 h; omega
  clear k1 k2
  go_wp2_with fail
  go_at_call 67
  refine (ho2 _ _ _ LA LM).mono ?_
  rintro e u5 ⟨rfl, hb⟩
  replace bA := bA.keep hb
  replace h1 := h1.keep hb
  replace hB := hB.trans (hb.mono hB.size)
  clear hb LM bM LA ho2 rM0 rM1 rA0 rA1
  have rA0 := bA.c0
  have rA1 := bA.c1
  go_wp2
  go_loopw [6, 7] (fun n i wr => ∃ (k : Nat), n = .int .i64 (sg true (vl (l.drop k))) ∧ i = .int .i64 ((k : Int) - 1) ∧ k ≤ n1 ∧ u5 = wr)
    (fun _ i _ => (intOf i + 1).toNat)
  case atStart => exact ⟨n1, by rw [List.drop_eq_nil_of_le (by omega)]; simp [sg, vl, val], rfl, Nat.le_refl _, rfl⟩
  case round =>
    obtain ⟨k, rfl, rfl, hk, rfl⟩ := hrel
    by_cases hk0 : k = 0
    · subst hk0
      have c0 : ¬ (0 : Int) ≤ ((0 : Nat) : Int) - 1 := by omega
      rw [List.drop_zero, hXh.out]
      go_wp2
      go_ret2
      exact ⟨rfl, hB⟩
    · obtain ⟨j, rfl⟩ : ∃ j, k = j + 1 := ⟨k - 1, by omega⟩
      rw [show (((j + 1 : Nat) : Int) - 1) = (j : Int) by omega]
      obtain ⟨ga, oa, rfl, cd⟩ := h1.at (k := j) (by omega)
      have bd := hdl.el (by omega) j
      have hp := vl_drop_pred (l := l) (j := j) (by omega)
      have hb1 := vl_drop_le hdl j (by omega)
      have hb2 := vl_drop_le hdl (j + 1) (by omega)
      have hXv : -(vl l) = X := hXh.out
      obtain ⟨d, hd⟩ : ∃ d, el l j = d := ⟨_, rfl⟩
      rw [hd] at cd bd hp
      obtain ⟨V, hV⟩ : ∃ V, vl (l.drop (j + 1)) = V := ⟨_, rfl⟩
      rw [hV] at hp hb2 ⊢
      obtain ⟨U, hU⟩ : ∃ U, vl (l.drop j) = U := ⟨_, rfl⟩
      rw [hU] at hp hb1
      have HU : Hid (sg true V * 1000000000 - d = sg true (vl (l.drop j))) := Lib.hid (by rw [hU, hp]; simp only [sg, if_true, Bool.false_eq_true, if_false]; omega)
      have bS : -9223372036854775808 ≤ sg true V * 1000000000 ∧ sg true V * 1000000000 ≤ 9223372036854775807 ∧ -9223372036854775808 ≤ sg true V * 1000000000 - d ∧ sg true V * 1000000000 - d ≤ 9223372036854775807 := by
        simp only [sg, if_true, Bool.false_eq_true, if_false]; omega
      generalize sg true V = N at *
      clear hd hV hU hp hb1 hb2 hXv
      go_wp2
      go_roundw
      case rel => exact ⟨j, by rw [HU.out], rfl, by omega, trivial⟩
      case measure => simp [intOf]; try omega
set_option maxRecDepth 100000 in
set_option maxHeartbeats 2000000 in
theorem rint_big_false (s1 : Value) (l : List Int) (w : World) (h1 : Ls w s1 l) (ll : l.length ≤ 2000) (c1 : ckL false l = 0) (hr : (intR (sg false (vl l))).2 = 6 ∧ (sg false (vl l) < -9223372036854775808 ∨ 9223372036854775807 < sg false (vl l))) :
    Calls Tryd.prog 24 #[.agg #[.bool false, s1]] w fun e w' => e = .returned (.tuple #[.int .i64 0, .int .i64 6]) ∧ Below w.heap.size w w' := by
  have hr1 := fun w h => rright_any false s1 l w h (by omega)
  rw [c1, dec00] at hr1
  have hdl := ((okD_iff l).1 (ck_ok c1)).1
  have LA := (lg_any h1 c1).1
  have hDl := (lg_any h1 c1).2
  rw [show numL false l = sg false (vl l) from rfl] at LA hDl
  have h1' := h1
  obtain ⟨pa, ca, rfl, _, hpa⟩ := h1'
  obtain ⟨X, hX⟩ : ∃ X, sg false (vl l) = X := ⟨_, rfl⟩
  rw [hX] at LA hDl hr
  obtain ⟨n1, hn1⟩ : ∃ n1, l.length = n1 := ⟨_, rfl⟩
  rw [hn1] at h1 hr1 LA ⊢
  have ho1 := fun w V U h h' => rorder_num V U X (-9223372036854775808) w h h' (by omega) (Nat.le_trans (Dl_three (by omega) (by omega)) (by omega))
  have ho2 := fun w V U h h' => rorder_num V U X 9223372036854775807 w h h' (by omega) (Nat.le_trans (Dl_three (by omega) (by omega)) (by omega))
  have k1 := cmpI_neg_iff X (-9223372036854775808)
  have k2 := cmpI_neg_iff X 9223372036854775807
  generalize cmpI X (-9223372036854775808) = C1 at *
  generalize cmpI X 9223372036854775807 = C2 at *
  have hXh := Lib.hid hX
  clear hX c1
  have hB : Below w.heap.size w (w.alloc (.cells #[.bool false, .slice pa n1 ca] 24)) := by (repeat (first | with_reducible exact Below.refl _ _ | with_reducible assumption | refine Below.alloc ?_ (by (try simp); try omega) _ | refine Below.setCell ?_ (by (try simp); try omega) _ | refine below_drewN ?_ _ | refine Below.drew ?_ | (with_reducible refine Below.trans ?_ (Below.mono (by assumption) (by (try simp); try omega)))))
  have bA : Bx (w.alloc (.cells #[.bool false, .slice pa n1 ca] 24)) (w.heap.size) (.bool false) (.slice pa n1 ca) 24 := by exact (Bx.new w (.bool false) (.slice pa n1 ca) 24)
  have rbA0 := bA.c0
  have rbA1 := bA.c1
  replace h1 := h1.keep hB
  replace LA := LA.keep hB
  go_enter Tryd.func24, Tryd.ntmps24
  go_wp2_with fail
  go_at_call 66
  refine (hr1 _ h1).mono ?_
  rintro e u1 ⟨rfl, hb⟩
  replace bA := bA.keep hb
  replace h1 := h1.keep hb
  replace LA := LA.keep hb
  replace hB := hB.trans (hb.mono hB.size)
  clear rbA0 rbA1 hb hr1
  go_wp2_with fail
  go_at_call 19
  refine (rof_num (-9223372036854775808) u1 (by omega) (by omega)).mono ?_
  rintro e u2 ⟨⟨pL, aL, nL, cL, rfl, LL⟩, hb⟩
  replace bA := bA.keep hb
  replace h1 := h1.keep hb
  replace LA := LA.keep hb
  replace hB := hB.trans (hb.mono hB.size)
  clear hb
  go_wp2_with fail
  go_at_call 19
  refine (rof_num 9223372036854775807 u2 (by omega) (by omega)).mono ?_
  rintro e u3 ⟨⟨pM, aM, nM, cM, rfl, LM⟩, hb⟩
  replace bA := bA.keep hb
  replace h1 := h1.keep hb
  replace LA := LA.keep hb
  replace LL := LL.keep hb
  replace hB := hB.trans (hb.mono hB.size)
  clear hb
  have hX : Below u3.heap.size u3 ((u3.alloc (.cells #[.bool pL, .slice aL nL cL] 24)).alloc (.cells #[.bool pM, .slice aM nM cM] 24)) := by (repeat (first | with_reducible exact Below.refl _ _ | with_reducible assumption | refine Below.alloc ?_ (by (try simp); try omega) _ | refine Below.setCell ?_ (by (try simp); try omega) _ | refine below_drewN ?_ _ | refine Below.drew ?_ | (with_reducible refine Below.trans ?_ (Below.mono (by assumption) (by (try simp); try omega)))))
  have bL : Bx ((u3.alloc (.cells #[.bool pL, .slice aL nL cL] 24)).alloc (.cells #[.bool pM, .slice aM nM cM] 24)) (u3.heap.size) (.bool pL) (.slice aL nL cL) 24 := by exact ((Bx.new u3 (.bool pL) (.slice aL nL cL) 24).alloc (.cells #[.bool pM, .slice aM nM cM] 24))
  have bM : Bx ((u3.alloc (.cells #[.bool pL, .slice aL nL cL] 24)).alloc (.cells #[.bool pM, .slice aM nM cM] 24)) (u3.heap.size + 1) (.bool pM) (.slice aM nM cM) 24 := by have := (Bx.new (u3.alloc (.cells #[.bool pL, .slice aL nL cL] 24)) (.bool pM) (.slice aM nM cM) 24); simpa using this
  have rA0 := (bA.keep hX).c0
  have rA1 := (bA.keep hX).c1
  go_wp2_with fail
  replace bA := bA.keep hX
  replace h1 := h1.keep hX
  replace LA := LA.keep hX
  replace LL := LL.keep hX
  replace LM := LM.keep hX
  replace hB := hB.trans (hX.mono hB.size)
  clear hX rA0 rA1
  generalize ((u3.alloc (.cells #[.bool pL, .slice aL nL cL] 24)).alloc (.cells #[.bool pM, .slice aM nM cM] 24)) = v3 at *
  go_at_call 67
  refine (ho1 _ _ _ LA LL).mono ?_
  rintro e u4 ⟨rfl, hb⟩
  replace bA := bA.keep hb
  replace bM := bM.keep hb
  replace h1 := h1.keep hb
  replace LA := LA.keep hb
  replace LM := LM.keep hb
  replace hB := hB.trans (hb.mono hB.size)
  have rA0 := bA.c0
  have rA1 := bA.c1
  have rM0 := bM.c0
  have rM1 := bM.c1
  clear hb LL bL ho1
  by_cases hlo : X < -9223372036854775808
  · have hC : C1 < 0 := k1.1.2 hlo
    clear k1 k2 hr
    go_wp2
    go_ret2
    exact ⟨rfl, hB⟩
  · have hC : ¬ C1 < 0 := fun h => hlo (k1.1.1 h)
    have hC2 : 0 < C2 := k2.2.2 (by have := hr.2; omega)
    clear k1 k2 hr
    go_wp2_with fail
    go_at_call 67
    refine (ho2 _ _ _ LA LM).mono ?_
    rintro e u5 ⟨rfl, hb⟩
    replace hB := hB.trans (hb.mono hB.size)
    go_wp2
    go_ret2
    exact ⟨rfl, hB⟩
set_option maxRecDepth 100000 in
set_option maxHeartbeats 2000000 in
theorem rint_in_false (s1 : Value) (l : List Int) (w : World) (h1 : Ls w s1 l) (ll : l.length ≤ 2000) (c1 : ckL false l = 0) (hr : -9223372036854775808 ≤ sg false (vl l) ∧ sg false (vl l) ≤ 9223372036854775807) :
    Calls Tryd.prog 24 #[.agg #[.bool false, s1]] w fun e w' => e = .returned (.tuple #[.int .i64 (sg false (vl l)), .int .i64 0]) ∧ Below w.heap.size w w' := by
  have hr1 := fun w h => rright_any false s1 l w h (by omega)
  rw [c1, dec00] at hr1
  have hdl := ((okD_iff l).1 (ck_ok c1)).1
  have LA := (lg_any h1 c1).1
  have hDl := (lg_any h1 c1).2
  rw [show numL false l = sg false (vl l) from rfl] at LA hDl
  have h1' := h1
  obtain ⟨pa, ca, rfl, _, hpa⟩ := h1'
  obtain ⟨X, hX⟩ : ∃ X, sg false (vl l) = X := ⟨_, rfl⟩
  rw [hX] at LA hDl hr ⊢
  obtain ⟨n1, hn1⟩ : ∃ n1, l.length = n1 := ⟨_, rfl⟩
  rw [hn1] at h1 hr1 LA ⊢
  have ho1 := fun w V U h h' => rorder_num V U X (-9223372036854775808) w h h' (by omega) (Nat.le_trans (Dl_three (by omega) (by omega)) (by omega))
  have ho2 := fun w V U h h' => rorder_num V U X 9223372036854775807 w h h' (by omega) (Nat.le_trans (Dl_three (by omega) (by omega)) (by omega))
  have k1 := cmpI_neg_iff X (-9223372036854775808)
  have k2 := cmpI_neg_iff X 9223372036854775807
  generalize cmpI X (-9223372036854775808) = C1 at *
  generalize cmpI X 9223372036854775807 = C2 at *
  have hXh := Lib.hid hX
  clear hX c1
  have hB : Below w.heap.size w (w.alloc (.cells #[.bool false, .slice pa n1 ca] 24)) := by (repeat (first | with_reducible exact Below.refl _ _ | with_reducible assumption | refine Below.alloc ?_ (by (try simp); try omega) _ | refine Below.setCell ?_ (by (try simp); try omega) _ | refine below_drewN ?_ _ | refine Below.drew ?_ | (with_reducible refine Below.trans ?_ (Below.mono (by assumption) (by (try simp); try omega)))))
  have bA : Bx (w.alloc (.cells #[.bool false, .slice pa n1 ca] 24)) (w.heap.size) (.bool false) (.slice pa n1 ca) 24 := by exact (Bx.new w (.bool false) (.slice pa n1 ca) 24)
  have rbA0 := bA.c0
  have rbA1 := bA.c1
  replace h1 := h1.keep hB
  replace LA := LA.keep hB
  go_enter Tryd.func24, Tryd.ntmps24
  go_wp2_with fail
  go_at_call 66
  refine (hr1 _ h1).mono ?_
  rintro e u1 ⟨rfl, hb⟩
  replace bA := bA.keep hb
  replace h1 := h1.keep hb
  replace LA := LA.keep hb
  replace hB := hB.trans (hb.mono hB.size)
  clear rbA0 rbA1 hb hr1
  go_wp2_with fail
  go_at_call 19
  refine (rof_num (-9223372036854775808) u1 (by omega) (by omega)).mono ?_
  rintro e u2 ⟨⟨pL, aL, nL, cL, rfl, LL⟩, hb⟩
  replace bA := bA.keep hb
  replace h1 := h1.keep hb
  replace LA := LA.keep hb
  replace hB := hB.trans (hb.mono hB.size)
  clear hb
  go_wp2_with fail
  go_at_call 19
  refine (rof_num 9223372036854775807 u2 (by omega) (by omega)).mono ?_
  rintro e u3 ⟨⟨pM, aM, nM, cM, rfl, LM⟩, hb⟩
  replace bA := bA.keep hb
  replace h1 := h1.keep hb
  replace LA := LA.keep hb
  replace LL := LL.keep hb
  replace hB := hB.trans (hb.mono hB.size)
  clear hb
  have hX : Below u3.heap.size u3 ((u3.alloc (.cells #[.bool pL, .slice aL nL cL] 24)).alloc (.cells #[.bool pM, .slice aM nM cM] 24)) := by (repeat (first | with_reducible exact Below.refl _ _ | with_reducible assumption | refine Below.alloc ?_ (by (try simp); try omega) _ | refine Below.setCell ?_ (by (try simp); try omega) _ | refine below_drewN ?_ _ | refine Below.drew ?_ | (with_reducible refine Below.trans ?_ (Below.mono (by assumption) (by (try simp); try omega)))))
  have bL : Bx ((u3.alloc (.cells #[.bool pL, .slice aL nL cL] 24)).alloc (.cells #[.bool pM, .slice aM nM cM] 24)) (u3.heap.size) (.bool pL) (.slice aL nL cL) 24 := by exact ((Bx.new u3 (.bool pL) (.slice aL nL cL) 24).alloc (.cells #[.bool pM, .slice aM nM cM] 24))
  have bM : Bx ((u3.alloc (.cells #[.bool pL, .slice aL nL cL] 24)).alloc (.cells #[.bool pM, .slice aM nM cM] 24)) (u3.heap.size + 1) (.bool pM) (.slice aM nM cM) 24 := by have := (Bx.new (u3.alloc (.cells #[.bool pL, .slice aL nL cL] 24)) (.bool pM) (.slice aM nM cM) 24); simpa using this
  have rA0 := (bA.keep hX).c0
  have rA1 := (bA.keep hX).c1
  go_wp2_with fail
  replace bA := bA.keep hX
  replace h1 := h1.keep hX
  replace LA := LA.keep hX
  replace LL := LL.keep hX
  replace LM := LM.keep hX
  replace hB := hB.trans (hX.mono hB.size)
  clear hX rA0 rA1
  generalize ((u3.alloc (.cells #[.bool pL, .slice aL nL cL] 24)).alloc (.cells #[.bool pM, .slice aM nM cM] 24)) = v3 at *
  go_at_call 67
  refine (ho1 _ _ _ LA LL).mono ?_
  rintro e u4 ⟨rfl, hb⟩
  replace bA := bA.keep hb
  replace bM := bM.keep hb
  replace h1 := h1.keep hb
  replace LA := LA.keep hb
  replace LM := LM.keep hb
  replace hB := hB.trans (hb.mono hB.size)
  have rA0 := bA.c0
  have rA1 := bA.c1
  have rM0 := bM.c0
  have rM1 := bM.c1
  clear hb LL bL ho1
  have hC : ¬ C1 < 0 := fun h => by have := k1.1.1 h; omega
  have hC2 : ¬ 0 < C2 := fun h => by have := k2.2.1 h; omega
  clear k1 k2
  go_wp2_with fail
  go_at_call 67
  refine (ho2 _ _ _ LA LM).mono ?_
  rintro e u5 ⟨rfl, hb⟩
  replace bA := bA.keep hb
  replace h1 := h1.keep hb
  replace hB := hB.trans (hb.mono hB.size)
  clear hb LM bM LA ho2 rM0 rM1 rA0 rA1
  have rA0 := bA.c0
  have rA1 := bA.c1
  go_wp2
  go_loopw [6, 7] (fun n i wr => ∃ (k : Nat), n = .int .i64 (sg false (vl (l.drop k))) ∧ i = .int .i64 ((k : Int) - 1) ∧ k ≤ n1 ∧ u5 = wr)
    (fun _ i _ => (intOf i + 1).toNat)
  case atStart => exact ⟨n1, by rw [List.drop_eq_nil_of_le (by omega)]; simp [sg, vl, val], rfl, Nat.le_refl _, rfl⟩
  case round =>
    obtain ⟨k, rfl, rfl, hk, rfl⟩ := hrel
    by_cases hk0 : k = 0
    · subst hk0
      have c0 : ¬ (0 : Int) ≤ ((0 : Nat) : Int) - 1 := by omega
      rw [List.drop_zero, hXh.out]
      go_wp2
      go_ret2
      exact ⟨rfl, hB⟩
    · obtain ⟨j, rfl⟩ : ∃ j, k = j + 1 := ⟨k - 1, by omega⟩
      rw [show (((j + 1 : Nat) : Int) - 1) = (j : Int) by omega]
      obtain ⟨ga, oa, rfl, cd⟩ := h1.at (k := j) (by omega)
      have bd := hdl.el (by omega) j
      have hp := vl_drop_pred (l := l) (j := j) (by omega)
      have hb1 := vl_drop_le hdl j (by omega)
      have hb2 := vl_drop_le hdl (j + 1) (by omega)
      have hXv : vl l = X := hXh.out
      obtain ⟨d, hd⟩ : ∃ d, el l j = d := ⟨_, rfl⟩
      rw [hd] at cd bd hp
      obtain ⟨V, hV⟩ : ∃ V, vl (l.drop (j + 1)) = V := ⟨_, rfl⟩
      rw [hV] at hp hb2 ⊢
      obtain ⟨U, hU⟩ : ∃ U, vl (l.drop j) = U := ⟨_, rfl⟩
      rw [hU] at hp hb1
      have HU : Hid (sg false V * 1000000000 + d = sg false (vl (l.drop j))) := Lib.hid (by rw [hU, hp]; simp only [sg, if_true, Bool.false_eq_true, if_false]; omega)
      have bS : -9223372036854775808 ≤ sg false V * 1000000000 ∧ sg false V * 1000000000 ≤ 9223372036854775807 ∧ -9223372036854775808 ≤ sg false V * 1000000000 + d ∧ sg false V * 1000000000 + d ≤ 9223372036854775807 := by
        simp only [sg, if_true, Bool.false_eq_true, if_false]; omega
      generalize sg false V = N at *
      clear hd hV hU hp hb1 hb2 hXv
      go_wp2
      go_roundw
      case rel => exact ⟨j, by rw [HU.out], rfl, by omega, trivial⟩
      case measure => simp [intOf]; try omega
set_option maxRecDepth 100000 in
theorem rint_bad (b1 : Bool) (s1 : Value) (l : List Int) (w : World) (h1 : Ls w s1 l) (ll : l.length ≤ 2000) (c1 : ckL b1 l = 30) :
    Calls Tryd.prog 24 #[.agg #[.bool b1, s1]] w fun e w' => e = .returned (.tuple #[.int .i64 0, .int .i64 30]) ∧ Below w.heap.size w w' := by
  have hr1 := fun w h => rright_any b1 s1 l w h (by omega)
  have h1' := h1
  obtain ⟨pa, ca, rfl, _, _⟩ := h1'
  obtain ⟨n1, hn1⟩ : ∃ n1, l.length = n1 := ⟨_, rfl⟩
  rw [hn1] at h1 hr1 ⊢
  have hB : Below w.heap.size w (w.alloc (.cells #[.bool b1, .slice pa n1 ca] 24)) := by (repeat (first | with_reducible exact Below.refl _ _ | with_reducible assumption | refine Below.alloc ?_ (by (try simp); try omega) _ | refine Below.setCell ?_ (by (try simp); try omega) _ | refine below_drewN ?_ _ | refine Below.drew ?_ | (with_reducible refine Below.trans ?_ (Below.mono (by assumption) (by (try simp); try omega)))))
  have bA : Bx (w.alloc (.cells #[.bool b1, .slice pa n1 ca] 24)) (w.heap.size) (.bool b1) (.slice pa n1 ca) 24 := by exact (Bx.new w (.bool b1) (.slice pa n1 ca) 24)
  have rbA0 := bA.c0
  have rbA1 := bA.c1
  replace h1 := h1.keep hB
  rw [c1, dec30] at hr1
  clear c1
  go_enter Tryd.func24, Tryd.ntmps24
  go_wp2_with fail
  go_at_call 66
  refine (hr1 _ h1).mono ?_
  rintro e u1 ⟨rfl, hb⟩
  replace hB := hB.trans (hb.mono hB.size)
  go_wp2
  go_ret2
  exact ⟨rfl, hB⟩
theorem rint_any (b1 : Bool) (s1 : Value) (l : List Int) (w : World) (h1 : Ls w s1 l) (ll : l.length ≤ 2000) (c1 : ckL b1 l = 0) :
    Calls Tryd.prog 24 #[.agg #[.bool b1, s1]] w fun e w' => e = .returned (.tuple #[.int .i64 (intR (numL b1 l)).1, .int .i64 (intR (numL b1 l)).2]) ∧ Below w.heap.size w w' := by
  rw [show numL b1 l = sg b1 (vl l) from rfl]
  by_cases h : -9223372036854775808 ≤ sg b1 (vl l) ∧ sg b1 (vl l) ≤ 9223372036854775807
  · rw [show intR (sg b1 (vl l)) = (sg b1 (vl l), 0) from if_pos h]
    cases b1
    · exact rint_in_false s1 l w h1 ll c1 h
    · exact rint_in_true s1 l w h1 ll c1 h
  · have e : intR (sg b1 (vl l)) = (0, 6) := if_neg h
    have h6 : (intR (sg b1 (vl l))).2 = 6 ∧ (sg b1 (vl l) < -9223372036854775808 ∨ 9223372036854775807 < sg b1 (vl l)) := ⟨by rw [e], by omega⟩
    rw [e]
    cases b1
    · exact rint_big_false s1 l w h1 ll c1 h6
    · exact rint_big_true s1 l w h1 ll c1 h6

theorem cmp_both (b1 b2 : Bool) (l m : List Int) (ll : l.length ≤ 65) (lm : m.length ≤ 65) : ∃ z er : Int,
    (∀ w s1 s2, Ls w s1 l → Ls w s2 m → Calls Tryd.prog 21 #[.agg #[.bool b1, s1], .agg #[.bool b2, s2]] w fun e w' => e = .returned (.tuple #[.int .i64 z, .int .i64 er]) ∧ Below w.heap.size w w') ∧
    (∀ w s1 s2, Ls w s1 l → Ls w s2 m → Calls Tryd.prog 22 #[.agg #[.bool b1, s1], .agg #[.bool b2, s2]] w fun e w' => e = .returned (.tuple #[.int .i64 z, .int .i64 er]) ∧ Below w.heap.size w w') := by
  rcases ckT_cases (ckL b1 l) (ckL b2 m) (ckB _ _) (ckB _ _) with ⟨h, c1, c2⟩ | h
  · have d1 : Dl (numL b1 l) ≤ 65 := by unfold Dl; rw [← (ckL_lg c1).2.1]; exact ll
    have d2 : Dl (numL b2 m) ≤ 65 := by unfold Dl; rw [← (ckL_lg c2).2.1]; exact lm
    refine ⟨cmpI (numL b1 l) (numL b2 m), 0, fun w s1 s2 h1 h2 => ?_, fun w s1 s2 h1 h2 => rcmp_any b1 b2 s1 s2 l m 0 _ w h1 h2 (by omega) (by omega) h (by rw [if_pos rfl])⟩
    exact cmp_num _ _ _ _ w (lg_any h1 c1).1 (lg_any h2 c2).1 (by unfold Dl at d1; omega) (by unfold Dl at d2; omega)
  · refine ⟨0, 30, fun w s1 s2 h1 h2 => ?_, fun w s1 s2 h1 h2 => rcmp_any b1 b2 s1 s2 l m 30 0 w h1 h2 (by omega) (by omega) h (by rw [if_neg (by omega)])⟩
    exact cmp_bad b1 b2 s1 s2 l m w h1 h2 (by omega) (by omega) h
theorem int_both (b1 : Bool) (l : List Int) (ll : l.length ≤ 65) : ∃ z er : Int,
    (∀ w s1, Ls w s1 l → Calls Tryd.prog 23 #[.agg #[.bool b1, s1]] w fun e w' => e = .returned (.tuple #[.int .i64 z, .int .i64 er]) ∧ Below w.heap.size w w') ∧
    (∀ w s1, Ls w s1 l → Calls Tryd.prog 24 #[.agg #[.bool b1, s1]] w fun e w' => e = .returned (.tuple #[.int .i64 z, .int .i64 er]) ∧ Below w.heap.size w w') := by
  rcases ckB b1 l with c1 | c1
  · have d1 : Dl (numL b1 l) ≤ 65 := by unfold Dl; rw [← (ckL_lg c1).2.1]; exact ll
    refine ⟨_, _, fun w s1 h1 => ?_, fun w s1 h1 => rint_any b1 s1 l w h1 (by omega) c1⟩
    exact int_num _ _ w (lg_any h1 c1).1 (by unfold Dl at d1; omega)
  · exact ⟨0, 30, fun w s1 h1 => int_bad b1 s1 l w h1 (by omega) c1, fun w s1 h1 => rint_bad b1 s1 l w h1 (by omega) c1⟩

theorem rsame_ok (A B : Value) (z : Int) (w : World) (hA : Lg w A z) (hB : Lg w B z) (ld : Dl z ≤ 1000000) :
    Calls Tryd.prog 17 #[A, B] w fun e w' => e = .returned (.bool true) ∧ Below w.heap.size w w' := by
  have := rsame_num A B z z w hA hB ld ld
  simpa using this
set_option maxRecDepth 100000 in
set_option maxHeartbeats 16000000 in
theorem longMakes_true (b1 : Bool) (s1 : Value) (l1 : List Int) (b2 : Bool) (s2 : Value) (l2 : List Int) (b3 : Bool) (k3 : Int) (s3 : Value) (m3 : List Int) (b4 : Bool) (k4 : Int) (s4 : Value) (m4 : List Int) (n : Int) (w : World) (hP : Pw w) (L1 : Ls w s1 l1) (L2 : Ls w s2 l2) (N1 : l1.length ≤ 9223372036854775807) (N2 : l2.length ≤ 9223372036854775807) (K30 : 0 ≤ k3) (K31 : k3 ≤ 255) (W3 : Wd w s3 m3) (K40 : 0 ≤ k4) (K41 : k4 ≤ 255) (W4 : Wd w s4 m4) (n0 : -9223372036854775808 ≤ n) (n9 : n ≤ 9223372036854775807) :
    Calls Tryd.prog 3 #[.agg #[.bool b1, s1, .bool b2, s2, .bool b3, .int .u8 k3, s3, .bool b4, .int .u8 k4, s4], .int .i64 n] w fun e w' => e = .returned (.bool true) ∧ Below w.heap.size w w' := by
  have L1' := L1
  have L2' := L2
  have W3' := W3
  have W4' := W4
  obtain ⟨q1, r1, rfl, _⟩ := L1'
  obtain ⟨q2, r2, rfl, _⟩ := L2'
  obtain ⟨q3, r3, rfl, _⟩ := W3'
  obtain ⟨q4, r4, rfl, _⟩ := W4'
  have hB : Below w.heap.size w (w.alloc (.cells #[.bool b1, .slice q1 l1.length r1, .bool b2, .slice q2 l2.length r2, .bool b3, .int .u8 k3, .slice q3 m3.length r3, .bool b4, .int .u8 k4, .slice q4 m4.length r4] 29)) := by (repeat (first | with_reducible exact Below.refl _ _ | with_reducible assumption | refine Below.alloc ?_ (by (try simp); try omega) _ | refine Below.setCell ?_ (by (try simp); try omega) _ | refine below_drewN ?_ _ | refine Below.drew ?_ | (with_reducible refine Below.trans ?_ (Below.mono (by assumption) (by (try simp); try omega)))))
  have c0 : (w.alloc (.cells #[.bool b1, .slice q1 l1.length r1, .bool b2, .slice q2 l2.length r2, .bool b3, .int .u8 k3, .slice q3 m3.length r3, .bool b4, .int .u8 k4, .slice q4 m4.length r4] 29)).cell? ⟨w.heap.size, 0, none⟩ = some (.bool b1) := by simp
  have c1 : (w.alloc (.cells #[.bool b1, .slice q1 l1.length r1, .bool b2, .slice q2 l2.length r2, .bool b3, .int .u8 k3, .slice q3 m3.length r3, .bool b4, .int .u8 k4, .slice q4 m4.length r4] 29)).cell? ⟨w.heap.size, 1, none⟩ = some (.slice q1 l1.length r1) := by simp
  have c2 : (w.alloc (.cells #[.bool b1, .slice q1 l1.length r1, .bool b2, .slice q2 l2.length r2, .bool b3, .int .u8 k3, .slice q3 m3.length r3, .bool b4, .int .u8 k4, .slice q4 m4.length r4] 29)).cell? ⟨w.heap.size, 2, none⟩ = some (.bool b2) := by simp
  have c3 : (w.alloc (.cells #[.bool b1, .slice q1 l1.length r1, .bool b2, .slice q2 l2.length r2, .bool b3, .int .u8 k3, .slice q3 m3.length r3, .bool b4, .int .u8 k4, .slice q4 m4.length r4] 29)).cell? ⟨w.heap.size, 3, none⟩ = some (.slice q2 l2.length r2) := by simp
  have c4 : (w.alloc (.cells #[.bool b1, .slice q1 l1.length r1, .bool b2, .slice q2 l2.length r2, .bool b3, .int .u8 k3, .slice q3 m3.length r3, .bool b4, .int .u8 k4, .slice q4 m4.length r4] 29)).cell? ⟨w.heap.size, 4, none⟩ = some (.bool b3) := by simp
  have c5 : (w.alloc (.cells #[.bool b1, .slice q1 l1.length r1, .bool b2, .slice q2 l2.length r2, .bool b3, .int .u8 k3, .slice q3 m3.length r3, .bool b4, .int .u8 k4, .slice q4 m4.length r4] 29)).cell? ⟨w.heap.size, 5, none⟩ = some (.int .u8 k3) := by simp
  have c6 : (w.alloc (.cells #[.bool b1, .slice q1 l1.length r1, .bool b2, .slice q2 l2.length r2, .bool b3, .int .u8 k3, .slice q3 m3.length r3, .bool b4, .int .u8 k4, .slice q4 m4.length r4] 29)).cell? ⟨w.heap.size, 6, none⟩ = some (.slice q3 m3.length r3) := by simp
  have c7 : (w.alloc (.cells #[.bool b1, .slice q1 l1.length r1, .bool b2, .slice q2 l2.length r2, .bool b3, .int .u8 k3, .slice q3 m3.length r3, .bool b4, .int .u8 k4, .slice q4 m4.length r4] 29)).cell? ⟨w.heap.size, 7, none⟩ = some (.bool b4) := by simp
  have c8 : (w.alloc (.cells #[.bool b1, .slice q1 l1.length r1, .bool b2, .slice q2 l2.length r2, .bool b3, .int .u8 k3, .slice q3 m3.length r3, .bool b4, .int .u8 k4, .slice q4 m4.length r4] 29)).cell? ⟨w.heap.size, 8, none⟩ = some (.int .u8 k4) := by simp
  have c9 : (w.alloc (.cells #[.bool b1, .slice q1 l1.length r1, .bool b2, .slice q2 l2.length r2, .bool b3, .int .u8 k3, .slice q3 m3.length r3, .bool b4, .int .u8 k4, .slice q4 m4.length r4] 29)).cell? ⟨w.heap.size, 9, none⟩ = some (.slice q4 m4.length r4) := by simp
  go_enter Tryd.func3, Tryd.ntmps3
  go_wp2_with fail
  generalize w.alloc (.cells #[.bool b1, .slice q1 l1.length r1, .bool b2, .slice q2 l2.length r2, .bool b3, .int .u8 k3, .slice q3 m3.length r3, .bool b4, .int .u8 k4, .slice q4 m4.length r4] 29) = w1 at *
  obtain ⟨g, hg⟩ : ∃ g, w.heap.size = g := ⟨_, rfl⟩
  simp only [hg] at c0 c1 c2 c3 c4 c5 c6 c7 c8 c9 ⊢
  rw [← hg]
  go_at_call 16
  refine (works_true _ (hP.keep hB)).mono ?_
  rintro e u1 ⟨rfl, hb⟩
  have hk : Below w1.heap.size w1 u1 := by (repeat (first | with_reducible exact Below.refl _ _ | with_reducible assumption | refine Below.alloc ?_ (by (try simp); try omega) _ | refine Below.setCell ?_ (by (try simp); try omega) _ | refine below_drewN ?_ _ | refine Below.drew ?_ | (with_reducible refine Below.trans ?_ (Below.mono (by assumption) (by (try simp); try omega)))))
  clear hb
  replace c0 := lkeep hk c0
  replace c1 := lkeep hk c1
  replace c2 := lkeep hk c2
  replace c3 := lkeep hk c3
  replace c4 := lkeep hk c4
  replace c5 := lkeep hk c5
  replace c6 := lkeep hk c6
  replace c7 := lkeep hk c7
  replace c8 := lkeep hk c8
  replace c9 := lkeep hk c9
  replace hB := hB.trans (hk.mono hB.size)
  clear hk

  go_wp2_with fail
  go_at_call 18
  refine (ofInt_ok n _ n0 n9).mono ?_
  rintro e u51 ⟨⟨pF, aF, nF, kF, rfl, LF⟩, hb⟩
  have hk : Below u1.heap.size u1 u51 := by (repeat (first | with_reducible exact Below.refl _ _ | with_reducible assumption | refine Below.alloc ?_ (by (try simp); try omega) _ | refine Below.setCell ?_ (by (try simp); try omega) _ | refine below_drewN ?_ _ | refine Below.drew ?_ | (with_reducible refine Below.trans ?_ (Below.mono (by assumption) (by (try simp); try omega)))))
  clear hb
  replace c0 := lkeep hk c0
  replace c1 := lkeep hk c1
  replace c2 := lkeep hk c2
  replace c3 := lkeep hk c3
  replace c4 := lkeep hk c4
  replace c5 := lkeep hk c5
  replace c6 := lkeep hk c6
  replace c7 := lkeep hk c7
  replace c8 := lkeep hk c8
  replace c9 := lkeep hk c9
  replace hB := hB.trans (hk.mono hB.size)
  clear hk
  go_wp2_with fail
  go_at_call 19
  refine (rof_num n _ n0 n9).mono ?_
  rintro e u52 ⟨⟨pG, aG, nG, kG, rfl, LG⟩, hb⟩
  have hk : Below u51.heap.size u51 u52 := by (repeat (first | with_reducible exact Below.refl _ _ | with_reducible assumption | refine Below.alloc ?_ (by (try simp); try omega) _ | refine Below.setCell ?_ (by (try simp); try omega) _ | refine below_drewN ?_ _ | refine Below.drew ?_ | (with_reducible refine Below.trans ?_ (Below.mono (by assumption) (by (try simp); try omega)))))
  clear hb
  replace LF := LF.keep hk
  replace c0 := lkeep hk c0
  replace c1 := lkeep hk c1
  replace c2 := lkeep hk c2
  replace c3 := lkeep hk c3
  replace c4 := lkeep hk c4
  replace c5 := lkeep hk c5
  replace c6 := lkeep hk c6
  replace c7 := lkeep hk c7
  replace c8 := lkeep hk c8
  replace c9 := lkeep hk c9
  replace hB := hB.trans (hk.mono hB.size)
  clear hk
  go_wp2_with fail
  go_at_call 17
  refine (rsame_ok _ _ n _ LF LG (Nat.le_trans (Dl_three (by omega) (by omega)) (by omega))).mono ?_
  rintro e u53 ⟨rfl, hb⟩
  have hk : Below u52.heap.size u52 u53 := by (repeat (first | with_reducible exact Below.refl _ _ | with_reducible assumption | refine Below.alloc ?_ (by (try simp); try omega) _ | refine Below.setCell ?_ (by (try simp); try omega) _ | refine below_drewN ?_ _ | refine Below.drew ?_ | (with_reducible refine Below.trans ?_ (Below.mono (by assumption) (by (try simp); try omega)))))
  clear hb
  replace LF := LF.keep hk
  replace LG := LG.keep hk
  replace c0 := lkeep hk c0
  replace c1 := lkeep hk c1
  replace c2 := lkeep hk c2
  replace c3 := lkeep hk c3
  replace c4 := lkeep hk c4
  replace c5 := lkeep hk c5
  replace c6 := lkeep hk c6
  replace c7 := lkeep hk c7
  replace c8 := lkeep hk c8
  replace c9 := lkeep hk c9
  replace hB := hB.trans (hk.mono hB.size)
  clear hk
  clear LF LG
  go_wp2_with fail
  go_at_call 20
  refine (pairs_any b1 _ l1 b2 _ l2 b3 k3 _ m3 b4 k4 _ m4 _ (L1.keep hB) (L2.keep hB) N1 N2 K30 K31 (W3.keep hB) K40 K41 (W4.keep hB)).mono ?_
  rintro e u2 ⟨B, f, rfl, PB, hb⟩
  have hk : Below u53.heap.size u53 u2 := by (repeat (first | with_reducible exact Below.refl _ _ | with_reducible assumption | refine Below.alloc ?_ (by (try simp); try omega) _ | refine Below.setCell ?_ (by (try simp); try omega) _ | refine below_drewN ?_ _ | refine Below.drew ?_ | (with_reducible refine Below.trans ?_ (Below.mono (by assumption) (by (try simp); try omega)))))
  clear hb
  clear c0 c1 c2 c3 c4 c5 c6 c7 c8 c9
  replace hB := hB.trans (hk.mono hB.size)
  clear hk
  clear L1 L2 W3 W4
  go_wp2
  go_loopw [26] (fun i wr => ∃ k : Nat, i = .int .i64 k ∧ k ≤ 4 ∧ Prs wr B f ∧ Below w.heap.size w wr)
    (fun i _ => 4 - (intOf i).toNat)
  case atStart => exact ⟨0, rfl, by omega, PB, hB⟩
  case round =>
    clear PB hB
    obtain ⟨k, rfl, hk, PB, hB⟩ := hrel
    by_cases hk4 : k = 4
    · subst hk4; clear PB; go_wp2; go_ret; exact ⟨rfl, hB⟩
    have hk' : k < 4 := by omega
    have hki : (k : Int) < 4 := by omega
    have hk1 : k + 1 ≤ 4 := by omega
    obtain ⟨a0, n0, j0, x0, x1, XL⟩ := PB.at0 k hk'
    obtain ⟨a1, n1, j1, y0, y1, YL⟩ := PB.at1 k hk'
    have len0 := PB.len0 k hk'
    have len1 := PB.len1 k hk'
    generalize (f k).1 = p at x0
    generalize (f k).2.1 = l at XL len0
    generalize (f k).2.2.1 = p' at y0
    generalize (f k).2.2.2 = l' at YL len1
    replace hk4 := Lib.hid hk4
    simp only [Nat.mul_comm 4 k] at x0 x1 y0 y1
    go_upto_region 8 with fail
    obtain ⟨d0, d1, d2, d3⟩ := cell4 (w := wr) (.bool p) (.slice a0 n0 j0) (.bool p') (.slice a1 n1 j1) 35
    have hB1 : Below w.heap.size w (wr.alloc (.cells #[.bool p, .slice a0 n0 j0, .bool p', .slice a1 n1 j1] 35)) := hB.alloc hB.size _
    have hb : Below wr.heap.size wr (wr.alloc (.cells #[.bool p, .slice a0 n0 j0, .bool p', .slice a1 n1 j1] 35)) := (Below.refl _ _).alloc (Nat.le_refl _) _
    replace PB := PB.keep hb
    replace XL := XL.keep hb
    replace YL := YL.keep hb
    clear hb hB x0 x1 y0 y1
    generalize wr.alloc (.cells #[.bool p, .slice a0 n0 j0, .bool p', .slice a1 n1 j1] 35) = v0 at *
    generalize wr.heap.size = g0 at *
    have hB := hB1
    clear hB1
    obtain ⟨zC, eC, hC1, hC2⟩ := cmp_both p p' l l' (by omega) (by omega)
    obtain ⟨zI, eI, hI1, hI2⟩ := int_both p l (by omega)
    replace hC1 := Lib.hid hC1
    replace hC2 := Lib.hid hC2
    replace hI1 := Lib.hid hI1
    replace hI2 := Lib.hid hI2
    have t1 : l.take 60 = l := List.take_of_length_le len0
    have ho1 := fun w h => own_any p (.slice a0 n0 j0) l w h (by omega)
    rw [t1] at ho1
    clear t1
    replace ho1 := Lib.hid ho1
    have t0 : v0.cell? ⟨g0, 0, none⟩ = some (.bool p) := d0
    have t1 : v0.cell? ⟨g0, 1, none⟩ = some (.slice a0 n0 j0) := d1
    have t2 : v0.cell? ⟨g0, 2, none⟩ = some (.bool p') := d2
    have t3 : v0.cell? ⟨g0, 3, none⟩ = some (.slice a1 n1 j1) := d3
    go_wp2_with fail
    clear t0 t1 t2 t3
    go_at_call 21
    refine (hC1.out _ _ _ XL YL).mono ?_
    rintro e u3 ⟨rfl, hb⟩
    have hk : Below v0.heap.size v0 u3 := by (repeat (first | with_reducible exact Below.refl _ _ | with_reducible assumption | refine Below.alloc ?_ (by (try simp); try omega) _ | refine Below.setCell ?_ (by (try simp); try omega) _ | refine below_drewN ?_ _ | refine Below.drew ?_ | (with_reducible refine Below.trans ?_ (Below.mono (by assumption) (by (try simp); try omega)))))
    clear hb
    replace PB := PB.keep hk
    replace XL := XL.keep hk
    replace YL := YL.keep hk
    replace d0 := lkeep hk d0
    replace d1 := lkeep hk d1
    replace d2 := lkeep hk d2
    replace d3 := lkeep hk d3
    replace hB := hB.trans (hk.mono hB.size)
    clear hk
    have t0 : u3.cell? ⟨g0, 0, none⟩ = some (.bool p) := d0
    have t1 : u3.cell? ⟨g0, 1, none⟩ = some (.slice a0 n0 j0) := d1
    have t2 : u3.cell? ⟨g0, 2, none⟩ = some (.bool p') := d2
    have t3 : u3.cell? ⟨g0, 3, none⟩ = some (.slice a1 n1 j1) := d3
    go_wp2_with fail
    clear t0 t1 t2 t3
    go_at_call 22
    refine (hC2.out _ _ _ XL YL).mono ?_
    rintro e u4 ⟨rfl, hb⟩
    have hk : Below u3.heap.size u3 u4 := by (repeat (first | with_reducible exact Below.refl _ _ | with_reducible assumption | refine Below.alloc ?_ (by (try simp); try omega) _ | refine Below.setCell ?_ (by (try simp); try omega) _ | refine below_drewN ?_ _ | refine Below.drew ?_ | (with_reducible refine Below.trans ?_ (Below.mono (by assumption) (by (try simp); try omega)))))
    clear hb
    replace PB := PB.keep hk
    replace XL := XL.keep hk
    replace YL := YL.keep hk
    replace d0 := lkeep hk d0
    replace d1 := lkeep hk d1
    replace d2 := lkeep hk d2
    replace d3 := lkeep hk d3
    replace hB := hB.trans (hk.mono hB.size)
    clear hk
    have t0 : u4.cell? ⟨g0, 0, none⟩ = some (.bool p) := d0
    have t1 : u4.cell? ⟨g0, 1, none⟩ = some (.slice a0 n0 j0) := d1
    go_wp2_with fail
    clear t0 t1
    go_at_call 23
    refine (hI1.out _ _ XL).mono ?_
    rintro e u5 ⟨rfl, hb⟩
    have hk : Below u4.heap.size u4 u5 := by (repeat (first | with_reducible exact Below.refl _ _ | with_reducible assumption | refine Below.alloc ?_ (by (try simp); try omega) _ | refine Below.setCell ?_ (by (try simp); try omega) _ | refine below_drewN ?_ _ | refine Below.drew ?_ | (with_reducible refine Below.trans ?_ (Below.mono (by assumption) (by (try simp); try omega)))))
    clear hb
    replace PB := PB.keep hk
    replace XL := XL.keep hk
    replace YL := YL.keep hk
    replace d0 := lkeep hk d0
    replace d1 := lkeep hk d1
    replace d2 := lkeep hk d2
    replace d3 := lkeep hk d3
    replace hB := hB.trans (hk.mono hB.size)
    clear hk
    have t0 : u5.cell? ⟨g0, 0, none⟩ = some (.bool p) := d0
    have t1 : u5.cell? ⟨g0, 1, none⟩ = some (.slice a0 n0 j0) := d1
    go_wp2_with fail
    clear t0 t1
    go_at_call 24
    refine (hI2.out _ _ XL).mono ?_
    rintro e u6 ⟨rfl, hb⟩
    have hk : Below u5.heap.size u5 u6 := by (repeat (first | with_reducible exact Below.refl _ _ | with_reducible assumption | refine Below.alloc ?_ (by (try simp); try omega) _ | refine Below.setCell ?_ (by (try simp); try omega) _ | refine below_drewN ?_ _ | refine Below.drew ?_ | (with_reducible refine Below.trans ?_ (Below.mono (by assumption) (by (try simp); try omega)))))
    clear hb
    replace PB := PB.keep hk
    replace XL := XL.keep hk
    replace YL := YL.keep hk
    replace d0 := lkeep hk d0
    replace d1 := lkeep hk d1
    replace d2 := lkeep hk d2
    replace d3 := lkeep hk d3
    replace hB := hB.trans (hk.mono hB.size)
    clear hk
    go_wp2_with fail
    have hck1 := fun w h => check_any p (.slice a0 n0 j0) l w h (by omega)
    have hck2 := fun w h => rcheck_any p (.slice a0 n0 j0) l w h (by omega)
    have hsm1 := fun w h h' => same_any p p' (.slice a0 n0 j0) (.slice a1 n1 j1) l l' w h h' (by omega) (by omega)
    have hsm2 := fun w h h' => rsame_any p p' (.slice a0 n0 j0) (.slice a1 n1 j1) l l' w h h' (by omega) (by omega)
    have hsm3 := fun w (V : Value) (h : Ls w (.slice a0 n0 j0) l) (h' : Ls w V l) => same_any p p (.slice a0 n0 j0) V l l w h h' (by omega) (by omega)
    have e3 : (p == p && decide (l = l)) = true := by simp
    rw [e3] at hsm3
    generalize (p == p' && decide (l = l')) = bS at *
    generalize ckL p l = cK at *
    replace hck1 := Lib.hid hck1
    replace hck2 := Lib.hid hck2
    replace hsm1 := Lib.hid hsm1
    replace hsm2 := Lib.hid hsm2
    replace hsm3 := Lib.hid hsm3
    clear e3
    replace hB : Below w.heap.size w u6.drew := hB.drew
    replace XL : Ls u6.drew _ _ := XL
    replace YL : Ls u6.drew _ _ := YL
    replace PB : Prs u6.drew B f := PB.keep ((Below.refl _ _).drew)
    replace d0 : u6.drew.cell? _ = _ := d0
    replace d1 : u6.drew.cell? _ = _ := d1
    replace d2 : u6.drew.cell? _ = _ := d2
    replace d3 : u6.drew.cell? _ = _ := d3
    go_region_held3 (fun w' => w'.cell? ⟨g0, 0, none⟩ = some (.bool p) ∧ w'.cell? ⟨g0, 1, none⟩ = some (.slice a0 n0 j0) ∧ w'.cell? ⟨g0, 2, none⟩ = some (.bool p') ∧ w'.cell? ⟨g0, 3, none⟩ = some (.slice a1 n1 j1))
      (exact ⟨d0, d1, d2, d3⟩)
      (first | (go_at_call 25; (with_reducible refine (hck1.out _ XL).mono ?_); rintro e uz1 ⟨rfl, hb1⟩; replace XL := XL.keep hb1; replace YL := YL.keep hb1; replace PB := PB.keep hb1; replace d0 := lkeep hb1 d0; replace d1 := lkeep hb1 d1; replace d2 := lkeep hb1 d2; replace d3 := lkeep hb1 d3; replace hB := hB.trans (hb1.mono hB.size); clear hb1) | (go_at_call 26; (with_reducible refine (hck2.out _ XL).mono ?_); rintro e uz2 ⟨rfl, hb2⟩; replace XL := XL.keep hb2; replace YL := YL.keep hb2; replace PB := PB.keep hb2; replace d0 := lkeep hb2 d0; replace d1 := lkeep hb2 d1; replace d2 := lkeep hb2 d2; replace d3 := lkeep hb2 d3; replace hB := hB.trans (hb2.mono hB.size); clear hb2) | (go_at_call 28; (with_reducible refine (ho1.out _ XL).mono ?_); rintro e uz3 ⟨aA, nA, kA, rfl, LA, hb3⟩; replace XL := XL.keep hb3; replace YL := YL.keep hb3; replace PB := PB.keep hb3; replace d0 := lkeep hb3 d0; replace d1 := lkeep hb3 d1; replace d2 := lkeep hb3 d2; replace d3 := lkeep hb3 d3; replace hB := hB.trans (hb3.mono hB.size); clear hb3) | (go_at_call 17; (with_reducible refine (hsm2.out _ XL YL).mono ?_); rintro e uz5 ⟨rfl, hb5⟩; replace XL := XL.keep hb5; replace YL := YL.keep hb5; replace PB := PB.keep hb5; replace d0 := lkeep hb5 d0; replace d1 := lkeep hb5 d1; replace d2 := lkeep hb5 d2; replace d3 := lkeep hb5 d3; replace hB := hB.trans (hb5.mono hB.size); clear hb5) | (go_at_call 27; (with_reducible refine (hsm1.out _ XL YL).mono ?_); rintro e uz4 ⟨rfl, hb4⟩; replace XL := XL.keep hb4; replace YL := YL.keep hb4; replace PB := PB.keep hb4; replace d0 := lkeep hb4 d0; replace d1 := lkeep hb4 d1; replace d2 := lkeep hb4 d2; replace d3 := lkeep hb4 d3; replace hB := hB.trans (hb4.mono hB.size); clear hb4) | (go_at_call 27; (with_reducible refine (hsm3.out _ _ XL LA).mono ?_); rintro e uz6 ⟨rfl, hb6⟩; replace XL := XL.keep hb6; replace YL := YL.keep hb6; replace PB := PB.keep hb6; replace d0 := lkeep hb6 d0; replace d1 := lkeep hb6 d1; replace d2 := lkeep hb6 d2; replace d3 := lkeep hb6 d3; replace hB := hB.trans (hb6.mono hB.size); clear hb6))
    all_goals
      clear XL YL d0 d1 d2 d3
      go_wp2
      go_roundw
      case rel => first | exact ⟨k + 1, by simp, hk1, PB, hB⟩ | ((repeat apply Exists.intro); refine ⟨⟨k + 1, ?_, hk1, PB, hB⟩, rfl⟩; simp)
      case measure => simp [intOf]; omega
end Go.Proofs.YtoppdbgodceaiaaDoor
