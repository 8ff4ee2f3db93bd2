/-
  LongInts: the walk.
-/
import Derived.Test.YtoppdbgodceaiaaDoorLiD
import Derived.Test.YtoppdbgodceaiaaDoorLhH
namespace Go.Proofs.YtoppdbgodceaiaaDoor
open Go.RowKit

theorem intR_in {z : Int} (h0 : -9223372036854775808 ≤ z) (h1 : z ≤ 9223372036854775807) : intR z = (z, 0) := if_pos ⟨h0, h1⟩
theorem Dl_int {z : Int} (h0 : -9223372036854775808 ≤ z) (h1 : z ≤ 9223372036854775807) : Dl z ≤ 600 := Nat.le_trans (Dl_three (by omega) (by omega)) (by omega)
theorem itoa_sx (n : Int) (h0 : -9223372036854775808 ≤ n) (h1 : n ≤ 9223372036854775807) (w : World) (hP : Pw w) :
    Calls Tryd.prog 56 #[.int .i64 n] w fun e w' => e = .returned (.string (sx n)) ∧ Below w.heap.size w w' := by
  refine (Tryd.strconv_Itoa n h0 h1 w hP).mono ?_
  rintro e w' ⟨rfl, k, os, rfl⟩
  exact ⟨rfl, Lib.below_grow _ w (Nat.le_refl _) k os⟩
theorem mul_bnd {M N : Int} (hM : -2147483648 ≤ M ∧ M ≤ 2147483647) (hN : -2147483648 ≤ N ∧ N ≤ 2147483647) : -4611686018427387904 ≤ M * N ∧ M * N ≤ 4611686018427387904 := by
  have h : (M * N).natAbs ≤ 2147483648 * 2147483648 := by
    rw [Int.natAbs_mul]
    exact Nat.mul_le_mul (by omega) (by omega)
  omega
theorem tdiv_bnd {M N : Int} (hM : -2147483648 ≤ M ∧ M ≤ 2147483647) : -2147483648 ≤ M.tdiv N ∧ M.tdiv N ≤ 2147483648 := by
  have h : (M.tdiv N).natAbs ≤ M.natAbs := by rw [Int.natAbs_tdiv]; exact Nat.div_le_self _ _
  omega
theorem tmod_bnd {M N : Int} (hN : -2147483648 ≤ N ∧ N ≤ 2147483647) (h0 : N ≠ 0) : -2147483648 ≤ M.tmod N ∧ M.tmod N ≤ 2147483648 := by
  have h : (M.tmod N).natAbs ≤ N.natAbs := by rw [Int.natAbs_tmod]; exact Nat.le_of_lt (Nat.mod_lt _ (by omega))
  omega
theorem cmp_lt (m n : Int) : (cmpI m n < 0 ↔ m < n) := by
  rcases Int.lt_trichotomy m n with h | h | h
  · rw [cmpI_lt h]; omega
  · rw [cmpI_eq h]; omega
  · rw [cmpI_gt h]; omega
theorem cmp_gt (m n : Int) : (!decide (0 < cmpI m n) == decide (n < m)) = false := by
  rcases Int.lt_trichotomy m n with h | h | h
  · rw [cmpI_lt h]; simp; omega
  · rw [cmpI_eq h]; simp [h]
  · rw [cmpI_gt h]; simp [h]
set_option maxRecDepth 100000 in
set_option maxHeartbeats 4000000 in
theorem longInts_true (m n : Int) (w : World) (hP : Pw w) (m0 : -9223372036854775808 ≤ m) (m1 : m ≤ 9223372036854775807) (n0 : -9223372036854775808 ≤ n) (n1 : n ≤ 9223372036854775807) :
    Calls Tryd.prog 13 #[.int .i64 m, .int .i64 n] w fun e w' => e = .returned (.bool true) ∧ Below w.heap.size w w' := by
  have hB := Below.refl w.heap.size w
  go_enter Tryd.func13, Tryd.ntmps13
  go_wp2_with fail
  go_at_call 16
  refine (works_true _ (hP.keep hB)).mono ?_
  rintro e u1 ⟨rfl, hb⟩
  have hk : Below w.heap.size w u1 := by (repeat (first | with_reducible exact Below.refl _ _ | with_reducible assumption | refine Below.alloc ?_ (by (try simp); try omega) _ | refine Below.setCell ?_ (by (try simp); try omega) _ | refine below_drewN ?_ _ | refine Below.drew ?_ | (with_reducible refine Below.trans ?_ (Below.mono (by assumption) (by (try simp); try omega)))))
  clear hb
  replace hB := hB.trans (hk.mono hB.size)
  clear hk
  go_wp2_with fail
  go_at_call 18
  refine (ofInt_ok m _ m0 m1).mono ?_
  rintro e u2 ⟨⟨pA, aA, nA, kA, rfl, LA⟩, hb⟩
  have hk : Below u1.heap.size u1 u2 := by (repeat (first | with_reducible exact Below.refl _ _ | with_reducible assumption | refine Below.alloc ?_ (by (try simp); try omega) _ | refine Below.setCell ?_ (by (try simp); try omega) _ | refine below_drewN ?_ _ | refine Below.drew ?_ | (with_reducible refine Below.trans ?_ (Below.mono (by assumption) (by (try simp); try omega)))))
  clear hb
  replace hB := hB.trans (hk.mono hB.size)
  clear hk
  go_wp2_with fail
  go_at_call 18
  refine (ofInt_ok n _ n0 n1).mono ?_
  rintro e u3 ⟨⟨pB, aB, nB, kB, rfl, LB⟩, hb⟩
  have hk : Below u2.heap.size u2 u3 := by (repeat (first | with_reducible exact Below.refl _ _ | with_reducible assumption | refine Below.alloc ?_ (by (try simp); try omega) _ | refine Below.setCell ?_ (by (try simp); try omega) _ | refine below_drewN ?_ _ | refine Below.drew ?_ | (with_reducible refine Below.trans ?_ (Below.mono (by assumption) (by (try simp); try omega)))))
  clear hb
  replace LA := LA.keep hk
  replace hB := hB.trans (hk.mono hB.size)
  clear hk
  go_wp2_with fail
  have hX : Below u3.heap.size u3 ((u3.alloc (.cells #[.bool pA, .slice aA nA kA] 24)).alloc (.cells #[.bool pB, .slice aB nB kB] 24)) := by (repeat (first | with_reducible exact Below.refl _ _ | with_reducible assumption | refine Below.alloc ?_ (by (try simp); try omega) _ | refine Below.setCell ?_ (by (try simp); try omega) _ | refine below_drewN ?_ _ | refine Below.drew ?_ | (with_reducible refine Below.trans ?_ (Below.mono (by assumption) (by (try simp); try omega)))))
  have bA : Bx ((u3.alloc (.cells #[.bool pA, .slice aA nA kA] 24)).alloc (.cells #[.bool pB, .slice aB nB kB] 24)) (u3.heap.size) (.bool pA) (.slice aA nA kA) 24 := by exact ((Bx.new u3 (.bool pA) (.slice aA nA kA) 24).alloc _)
  have gebA : w.heap.size ≤ u3.heap.size := by have := hB.size; omega
  have bB : Bx ((u3.alloc (.cells #[.bool pA, .slice aA nA kA] 24)).alloc (.cells #[.bool pB, .slice aB nB kB] 24)) (u3.heap.size + 1) (.bool pB) (.slice aB nB kB) 24 := by have := (Bx.new (u3.alloc (.cells #[.bool pA, .slice aA nA kA] 24)) (.bool pB) (.slice aB nB kB) 24); simpa using this
  have gebB : w.heap.size ≤ u3.heap.size + 1 := by have := hB.size; omega
  replace LA := LA.keep hX
  replace LB := LB.keep hX
  replace hB := hB.trans (hX.mono hB.size)
  clear hX
  generalize ((u3.alloc (.cells #[.bool pA, .slice aA nA kA] 24)).alloc (.cells #[.bool pB, .slice aB nB kB] 24)) = v4 at *
  generalize hg0 : u3.heap.size = gbA at *
  generalize hg1 : gbA + 1 = gbB at *
  have ltbAbB : gbA < gbB := by omega
  clear hg0 hg1
  go_at_call 23
  refine (int_num _ m _ LA (Dl_int m0 m1)).mono ?_
  rintro e u5 ⟨rfl, hb⟩
  have hk : Below v4.heap.size v4 u5 := by (repeat (first | with_reducible exact Below.refl _ _ | with_reducible assumption | refine Below.alloc ?_ (by (try simp); try omega) _ | refine Below.setCell ?_ (by (try simp); try omega) _ | refine below_drewN ?_ _ | refine Below.drew ?_ | (with_reducible refine Below.trans ?_ (Below.mono (by assumption) (by (try simp); try omega)))))
  clear hb
  replace LA := LA.keep hk
  replace LB := LB.keep hk
  replace bA := bA.keep hk
  replace bB := bB.keep hk
  replace hB := hB.trans (hk.mono hB.size)
  clear hk
  rw [intR_in m0 m1]
  have rbA0 : u5.cell? ⟨gbA, 0, none⟩ = some (.bool pA) := bA.c0
  have rbA1 : u5.cell? ⟨gbA, 1, none⟩ = some (.slice aA nA kA) := bA.c1
  go_wp2_with fail
  clear rbA0 rbA1
  go_at_call 49
  refine (text_num _ m _ LA (Dl_int m0 m1) (hP.keep hB)).mono ?_
  rintro e u6 ⟨rfl, hb⟩
  have hk : Below u5.heap.size u5 u6 := by (repeat (first | with_reducible exact Below.refl _ _ | with_reducible assumption | refine Below.alloc ?_ (by (try simp); try omega) _ | refine Below.setCell ?_ (by (try simp); try omega) _ | refine below_drewN ?_ _ | refine Below.drew ?_ | (with_reducible refine Below.trans ?_ (Below.mono (by assumption) (by (try simp); try omega)))))
  clear hb
  replace LA := LA.keep hk
  replace LB := LB.keep hk
  replace bA := bA.keep hk
  replace bB := bB.keep hk
  replace hB := hB.trans (hk.mono hB.size)
  clear hk
  have rbA0 : u6.cell? ⟨gbA, 0, none⟩ = some (.bool pA) := bA.c0
  have rbA1 : u6.cell? ⟨gbA, 1, none⟩ = some (.slice aA nA kA) := bA.c1
  have rbB0 : u6.cell? ⟨gbB, 0, none⟩ = some (.bool pB) := bB.c0
  have rbB1 : u6.cell? ⟨gbB, 1, none⟩ = some (.slice aB nB kB) := bB.c1
  go_wp2_with fail
  clear rbA0 rbA1 rbB0 rbB1
  go_at_call 21
  refine (cmp_num _ _ m n _ LA LB (Dl_int m0 m1) (Dl_int n0 n1)).mono ?_
  rintro e u7 ⟨rfl, hb⟩
  have hk : Below u6.heap.size u6 u7 := by (repeat (first | with_reducible exact Below.refl _ _ | with_reducible assumption | refine Below.alloc ?_ (by (try simp); try omega) _ | refine Below.setCell ?_ (by (try simp); try omega) _ | refine below_drewN ?_ _ | refine Below.drew ?_ | (with_reducible refine Below.trans ?_ (Below.mono (by assumption) (by (try simp); try omega)))))
  clear hb
  replace LA := LA.keep hk
  replace LB := LB.keep hk
  replace bA := bA.keep hk
  replace bB := bB.keep hk
  replace hB := hB.trans (hk.mono hB.size)
  clear hk
  obtain ⟨cc, hcc⟩ : ∃ cc, cmpI m n = cc := ⟨_, rfl⟩
  rw [hcc]
  have e1 : (cc < 0 ↔ m < n) := by subst hcc; exact cmp_lt m n
  have e2 : (!decide (0 < cc) == decide (n < m)) = false := by subst hcc; exact cmp_gt m n
  clear hcc
  go_wp2_with fail
  go_at_call 56
  refine (itoa_sx m m0 m1 _ (hP.keep hB)).mono ?_
  rintro e u8 ⟨rfl, hb⟩
  have hk : Below u7.heap.size u7 u8 := by (repeat (first | with_reducible exact Below.refl _ _ | with_reducible assumption | refine Below.alloc ?_ (by (try simp); try omega) _ | refine Below.setCell ?_ (by (try simp); try omega) _ | refine below_drewN ?_ _ | refine Below.drew ?_ | (with_reducible refine Below.trans ?_ (Below.mono (by assumption) (by (try simp); try omega)))))
  clear hb
  replace LA := LA.keep hk
  replace LB := LB.keep hk
  replace bA := bA.keep hk
  replace bB := bB.keep hk
  replace hB := hB.trans (hk.mono hB.size)
  clear hk
  go_wp2_with fail
  have M0 : -2147483648 ≤ m / 4294967296 ∧ m / 4294967296 ≤ 2147483647 := by omega
  have N0 : -2147483648 ≤ n / 4294967296 ∧ n / 4294967296 ≤ 2147483647 := by omega
  clear e1 e2 m0 m1 n0 n1
  replace LA := (⟨m, LA⟩ : ∃ x, Lg _ _ x)
  replace LB := (⟨n, LB⟩ : ∃ x, Lg _ _ x)
  generalize m / 4294967296 = M at *
  generalize n / 4294967296 = N at *
  clear LA LB
  go_at_call 18
  refine (ofInt_ok M _ (by omega) (by omega)).mono ?_
  rintro e u9 ⟨⟨pC, aC, nC, kC, rfl, LA⟩, hb⟩
  have hk : Below u8.heap.size u8 u9 := by (repeat (first | with_reducible exact Below.refl _ _ | with_reducible assumption | refine Below.alloc ?_ (by (try simp); try omega) _ | refine Below.setCell ?_ (by (try simp); try omega) _ | refine below_drewN ?_ _ | refine Below.drew ?_ | (with_reducible refine Below.trans ?_ (Below.mono (by assumption) (by (try simp); try omega)))))
  clear hb
  replace bA := bA.keep hk
  replace bB := bB.keep hk
  replace hB := hB.trans (hk.mono hB.size)
  clear hk
  have rbA0 := bA.c0
  have rbA1 := bA.c1
  have zbA0 := bA.f 0
  have zbA1 := bA.f 1
  have rbB0 := bB.c0
  have rbB1 := bB.c1
  have zbB0 := bB.f 0
  have zbB1 := bB.f 1
  go_wp2_with fail
  clear rbA0 rbA1 zbA0 zbA1 rbB0 rbB1 zbB0 zbB1
  go_at_call 18
  refine (ofInt_ok N _ (by omega) (by omega)).mono ?_
  rintro e u10 ⟨⟨pD, aD, nD, kD, rfl, LB⟩, hb⟩
  have hk : Below u9.heap.size u9 u10 := by (repeat (first | with_reducible exact Below.refl _ _ | with_reducible assumption | refine Below.alloc ?_ (by (try simp); try omega) _ | refine Below.setCell ?_ (by (try simp); try omega) _ | refine below_drewN ?_ _ | refine Below.drew ?_ | (with_reducible refine Below.trans ?_ (Below.mono (by assumption) (by (try simp); try omega)))))
  clear hb
  replace LA := LA.keep hk
  replace bA := bA.keep hk
  replace bB := bB.keep hk
  replace hB := hB.trans (hk.mono hB.size)
  clear hk
  have rbA0 := bA.c0
  have rbA1 := bA.c1
  have zbA0 := bA.f 0
  have zbA1 := bA.f 1
  have rbB0 := bB.c0
  have rbB1 := bB.c1
  have zbB0 := bB.f 0
  have zbB1 := bB.f 1
  go_wp2_with fail
  clear rbA0 rbA1 zbA0 zbA1 rbB0 rbB1 zbB0 zbB1
  replace bB : Bx ((u10.setCell ⟨gbA, 0, none⟩ (.bool pC)).setCell ⟨gbA, 1, none⟩ (.slice aC nC kC)) _ _ _ _ := bB.farP (by omega) _ _
  replace LA : Lg ((u10.setCell ⟨gbA, 0, none⟩ (.bool pC)).setCell ⟨gbA, 1, none⟩ (.slice aC nC kC)) _ _ := LA.put bA _ _ _ _
  replace LB : Lg ((u10.setCell ⟨gbA, 0, none⟩ (.bool pC)).setCell ⟨gbA, 1, none⟩ (.slice aC nC kC)) _ _ := LB.put bA _ _ _ _
  replace bA : Bx ((u10.setCell ⟨gbA, 0, none⟩ (.bool pC)).setCell ⟨gbA, 1, none⟩ (.slice aC nC kC)) _ _ _ _ := bA.putP _ _
  replace hB : Below w.heap.size w ((u10.setCell ⟨gbA, 0, none⟩ (.bool pC)).setCell ⟨gbA, 1, none⟩ (.slice aC nC kC)) := (hB.setCell gebA _).setCell gebA _
  generalize ((u10.setCell ⟨gbA, 0, none⟩ (.bool pC)).setCell ⟨gbA, 1, none⟩ (.slice aC nC kC)) = v110 at *
  replace bA : Bx ((v110.setCell ⟨gbB, 0, none⟩ (.bool pD)).setCell ⟨gbB, 1, none⟩ (.slice aD nD kD)) _ _ _ _ := bA.farP (by omega) _ _
  replace LA : Lg ((v110.setCell ⟨gbB, 0, none⟩ (.bool pD)).setCell ⟨gbB, 1, none⟩ (.slice aD nD kD)) _ _ := LA.put bB _ _ _ _
  replace LB : Lg ((v110.setCell ⟨gbB, 0, none⟩ (.bool pD)).setCell ⟨gbB, 1, none⟩ (.slice aD nD kD)) _ _ := LB.put bB _ _ _ _
  replace bB : Bx ((v110.setCell ⟨gbB, 0, none⟩ (.bool pD)).setCell ⟨gbB, 1, none⟩ (.slice aD nD kD)) _ _ _ _ := bB.putP _ _
  replace hB : Below w.heap.size w ((v110.setCell ⟨gbB, 0, none⟩ (.bool pD)).setCell ⟨gbB, 1, none⟩ (.slice aD nD kD)) := (hB.setCell gebB _).setCell gebB _
  generalize ((v110.setCell ⟨gbB, 0, none⟩ (.bool pD)).setCell ⟨gbB, 1, none⟩ (.slice aD nD kD)) = v111 at *
  have dM := Dl_int (z := M) (by omega) (by omega)
  have dN := Dl_int (z := N) (by omega) (by omega)
  have hMN : -4611686018427387904 ≤ M * N ∧ M * N ≤ 4611686018427387904 := mul_bnd M0 N0
  go_at_call 29
  refine (add_ok _ _ M N _ LA LB dM dN (Dl_int (by omega) (by omega))).mono ?_
  rintro e u12 ⟨⟨pX, aX, nX, kX, rfl, LX⟩, hb⟩
  have hk : Below v111.heap.size v111 u12 := by (repeat (first | with_reducible exact Below.refl _ _ | with_reducible assumption | refine Below.alloc ?_ (by (try simp); try omega) _ | refine Below.setCell ?_ (by (try simp); try omega) _ | refine below_drewN ?_ _ | refine Below.drew ?_ | (with_reducible refine Below.trans ?_ (Below.mono (by assumption) (by (try simp); try omega)))))
  clear hb
  replace LA := LA.keep hk
  replace LB := LB.keep hk
  replace bA := bA.keep hk
  replace bB := bB.keep hk
  replace hB := hB.trans (hk.mono hB.size)
  clear hk
  have rbA0 : (u12.alloc (.cells #[.bool pX, .slice aX nX kX] 24)).cell? ⟨gbA, 0, none⟩ = some (.bool pC) := (bA.alloc _).c0
  have rbA1 : (u12.alloc (.cells #[.bool pX, .slice aX nX kX] 24)).cell? ⟨gbA, 1, none⟩ = some (.slice aC nC kC) := (bA.alloc _).c1
  have rbB0 : (u12.alloc (.cells #[.bool pX, .slice aX nX kX] 24)).cell? ⟨gbB, 0, none⟩ = some (.bool pD) := (bB.alloc _).c0
  have rbB1 : (u12.alloc (.cells #[.bool pX, .slice aX nX kX] 24)).cell? ⟨gbB, 1, none⟩ = some (.slice aD nD kD) := (bB.alloc _).c1
  go_wp2_with fail
  clear rbA0 rbA1 rbB0 rbB1
  have hX : Below u12.heap.size u12 (u12.alloc (.cells #[.bool pX, .slice aX nX kX] 24)) := by (repeat (first | with_reducible exact Below.refl _ _ | with_reducible assumption | refine Below.alloc ?_ (by (try simp); try omega) _ | refine Below.setCell ?_ (by (try simp); try omega) _ | refine below_drewN ?_ _ | refine Below.drew ?_ | (with_reducible refine Below.trans ?_ (Below.mono (by assumption) (by (try simp); try omega)))))
  have bX : Bx (u12.alloc (.cells #[.bool pX, .slice aX nX kX] 24)) (u12.heap.size) (.bool pX) (.slice aX nX kX) 24 := by exact (Bx.new u12 (.bool pX) (.slice aX nX kX) 24)
  have gebX : w.heap.size ≤ u12.heap.size := by have := hB.size; omega
  have ltbAbX : gbA < u12.heap.size := by have := bA.lt; omega
  have ltbBbX : gbB < u12.heap.size := by have := bB.lt; omega
  replace LA := LA.keep hX
  replace LB := LB.keep hX
  replace LX := LX.keep hX
  replace bA := bA.keep hX
  replace bB := bB.keep hX
  replace hB := hB.trans (hX.mono hB.size)
  clear hX
  generalize (u12.alloc (.cells #[.bool pX, .slice aX nX kX] 24)) = v13 at *
  generalize u12.heap.size = gbX at *
  go_at_call 36
  refine (mul_ok _ _ M N _ LA LB dM dN (Dl_int (by omega) (by omega))).mono ?_
  rintro e u14 ⟨⟨pY, aY, nY, kY, rfl, LY⟩, hb⟩
  have hk : Below v13.heap.size v13 u14 := by (repeat (first | with_reducible exact Below.refl _ _ | with_reducible assumption | refine Below.alloc ?_ (by (try simp); try omega) _ | refine Below.setCell ?_ (by (try simp); try omega) _ | refine below_drewN ?_ _ | refine Below.drew ?_ | (with_reducible refine Below.trans ?_ (Below.mono (by assumption) (by (try simp); try omega)))))
  clear hb
  replace LA := LA.keep hk
  replace LB := LB.keep hk
  replace LX := LX.keep hk
  replace bA := bA.keep hk
  replace bB := bB.keep hk
  replace bX := bX.keep hk
  replace hB := hB.trans (hk.mono hB.size)
  clear hk
  go_wp2_with fail
  have hX : Below u14.heap.size u14 (u14.alloc (.cells #[.bool pY, .slice aY nY kY] 24)) := by (repeat (first | with_reducible exact Below.refl _ _ | with_reducible assumption | refine Below.alloc ?_ (by (try simp); try omega) _ | refine Below.setCell ?_ (by (try simp); try omega) _ | refine below_drewN ?_ _ | refine Below.drew ?_ | (with_reducible refine Below.trans ?_ (Below.mono (by assumption) (by (try simp); try omega)))))
  have bY : Bx (u14.alloc (.cells #[.bool pY, .slice aY nY kY] 24)) (u14.heap.size) (.bool pY) (.slice aY nY kY) 24 := by exact (Bx.new u14 (.bool pY) (.slice aY nY kY) 24)
  have gebY : w.heap.size ≤ u14.heap.size := by have := hB.size; omega
  have ltbAbY : gbA < u14.heap.size := by have := bA.lt; omega
  have ltbBbY : gbB < u14.heap.size := by have := bB.lt; omega
  have ltbXbY : gbX < u14.heap.size := by have := bX.lt; omega
  replace LA := LA.keep hX
  replace LB := LB.keep hX
  replace LX := LX.keep hX
  replace LY := LY.keep hX
  replace bA := bA.keep hX
  replace bB := bB.keep hX
  replace bX := bX.keep hX
  replace hB := hB.trans (hX.mono hB.size)
  clear hX
  generalize (u14.alloc (.cells #[.bool pY, .slice aY nY kY] 24)) = v15 at *
  generalize u14.heap.size = gbY at *
  have i1 : IntKind.i64.wrap (M + N) = M + N := IntWalk.i64_in _ (by omega)
  have i2 : IntKind.i64.wrap (M * N) = M * N := IntWalk.i64_in _ (by omega)
  go_region_held3 (fun w' => w'.cell? ⟨gbX, 0, none⟩ = some (.bool pX) ∧ w'.cell? ⟨gbX, 1, none⟩ = some (.slice aX nX kX) ∧ w'.cell? ⟨gbY, 0, none⟩ = some (.bool pY) ∧ w'.cell? ⟨gbY, 1, none⟩ = some (.slice aY nY kY))
    (first | exact ⟨bX.c0, bX.c1, bY.c0, bY.c1⟩)
    (first | (go_at_call 56; (with_reducible refine (itoa_sx (M + N) (by omega) (by omega) _ (hP.keep (by (repeat (first | with_reducible exact Below.refl _ _ | with_reducible assumption | refine Below.alloc ?_ (by (try simp); try omega) _ | refine Below.setCell ?_ (by (try simp); try omega) _ | refine below_drewN ?_ _ | refine Below.drew ?_ | (with_reducible refine Below.trans ?_ (Below.mono (by assumption) (by (try simp); try omega)))))))).mono ?_); rintro e uz ⟨rfl, hb⟩; (with_reducible (first | (replace hb := undrew3 (undrew3 hb)) | (replace hb := undrew3 hb) | skip)); replace LA := LA.keep hb; replace LB := LB.keep hb; replace LX := LX.keep hb; replace LY := LY.keep hb; replace bA := bA.keep hb; replace bB := bB.keep hb; replace bX := bX.keep hb; replace bY := bY.keep hb; replace hB := hB.trans (hb.mono hB.size); clear hb) | (go_at_call 56; (with_reducible refine (itoa_sx (M * N) (by omega) (by omega) _ (hP.keep (by (repeat (first | with_reducible exact Below.refl _ _ | with_reducible assumption | refine Below.alloc ?_ (by (try simp); try omega) _ | refine Below.setCell ?_ (by (try simp); try omega) _ | refine below_drewN ?_ _ | refine Below.drew ?_ | (with_reducible refine Below.trans ?_ (Below.mono (by assumption) (by (try simp); try omega)))))))).mono ?_); rintro e uz ⟨rfl, hb⟩; (with_reducible (first | (replace hb := undrew3 (undrew3 hb)) | (replace hb := undrew3 hb) | skip)); replace LA := LA.keep hb; replace LB := LB.keep hb; replace LX := LX.keep hb; replace LY := LY.keep hb; replace bA := bA.keep hb; replace bB := bB.keep hb; replace bX := bX.keep hb; replace bY := bY.keep hb; replace hB := hB.trans (hb.mono hB.size); clear hb) | (go_at_call 55; (with_reducible refine (is_any _ _).mono ?_); rintro e uz ⟨bq, rfl, hq, hb⟩; (with_reducible (first | (replace hb := undrew3 (undrew3 hb)) | (replace hb := undrew3 hb) | skip)); replace LA := LA.keep hb; replace LB := LB.keep hb; replace LX := LX.keep hb; replace LY := LY.keep hb; replace bA := bA.keep hb; replace bB := bB.keep hb; replace bX := bX.keep hb; replace bY := bY.keep hb; replace hB := hB.trans (hb.mono hB.size); clear hb) | (go_at_call 90; (with_reducible refine (is1_true _ (M + N) bq _ _ (LX.keep (by (repeat (first | with_reducible exact Below.refl _ _ | with_reducible assumption | refine Below.alloc ?_ (by (try simp); try omega) _ | refine Below.setCell ?_ (by (try simp); try omega) _ | refine below_drewN ?_ _ | refine Below.drew ?_ | (with_reducible refine Below.trans ?_ (Below.mono (by assumption) (by (try simp); try omega))))))) (Dl_int (by omega) (by omega)) (hP.keep (by (repeat (first | with_reducible exact Below.refl _ _ | with_reducible assumption | refine Below.alloc ?_ (by (try simp); try omega) _ | refine Below.setCell ?_ (by (try simp); try omega) _ | refine below_drewN ?_ _ | refine Below.drew ?_ | (with_reducible refine Below.trans ?_ (Below.mono (by assumption) (by (try simp); try omega))))))) (lkeep (by (repeat (first | with_reducible exact Below.refl _ _ | with_reducible assumption | refine Below.alloc ?_ (by (try simp); try omega) _ | refine Below.setCell ?_ (by (try simp); try omega) _ | refine below_drewN ?_ _ | refine Below.drew ?_ | (with_reducible refine Below.trans ?_ (Below.mono (by assumption) (by (try simp); try omega)))))) hq) rfl).mono ?_); rintro e uz ⟨rfl, hb⟩; (with_reducible (first | (replace hb := undrew3 (undrew3 hb)) | (replace hb := undrew3 hb) | skip)); replace LA := LA.keep hb; replace LB := LB.keep hb; replace LX := LX.keep hb; replace LY := LY.keep hb; replace bA := bA.keep hb; replace bB := bB.keep hb; replace bX := bX.keep hb; replace bY := bY.keep hb; replace hB := hB.trans (hb.mono hB.size); clear hb) | (go_at_call 90; (with_reducible refine (is1_true _ (M * N) bq _ _ (LY.keep (by (repeat (first | with_reducible exact Below.refl _ _ | with_reducible assumption | refine Below.alloc ?_ (by (try simp); try omega) _ | refine Below.setCell ?_ (by (try simp); try omega) _ | refine below_drewN ?_ _ | refine Below.drew ?_ | (with_reducible refine Below.trans ?_ (Below.mono (by assumption) (by (try simp); try omega))))))) (Dl_int (by omega) (by omega)) (hP.keep (by (repeat (first | with_reducible exact Below.refl _ _ | with_reducible assumption | refine Below.alloc ?_ (by (try simp); try omega) _ | refine Below.setCell ?_ (by (try simp); try omega) _ | refine below_drewN ?_ _ | refine Below.drew ?_ | (with_reducible refine Below.trans ?_ (Below.mono (by assumption) (by (try simp); try omega))))))) (lkeep (by (repeat (first | with_reducible exact Below.refl _ _ | with_reducible assumption | refine Below.alloc ?_ (by (try simp); try omega) _ | refine Below.setCell ?_ (by (try simp); try omega) _ | refine below_drewN ?_ _ | refine Below.drew ?_ | (with_reducible refine Below.trans ?_ (Below.mono (by assumption) (by (try simp); try omega)))))) hq) rfl).mono ?_); rintro e uz ⟨rfl, hb⟩; (with_reducible (first | (replace hb := undrew3 (undrew3 hb)) | (replace hb := undrew3 hb) | skip)); replace LA := LA.keep hb; replace LB := LB.keep hb; replace LX := LX.keep hb; replace LY := LY.keep hb; replace bA := bA.keep hb; replace bB := bB.keep hb; replace bX := bX.keep hb; replace bY := bY.keep hb; replace hB := hB.trans (hb.mono hB.size); clear hb))
  by_cases hN : N = 0
  · subst hN
    clear i1 i2 LA LB LX LY bA bB bX bY dM dN hMN
    go_wp2
    go_ret
    exact ⟨rfl, hB⟩
  · clear LX LY bX bY
    clear i1 i2 hMN
    have rbA0 : uz.cell? ⟨gbA, 0, none⟩ = some (.bool pC) := bA.c0
    have rbA1 : uz.cell? ⟨gbA, 1, none⟩ = some (.slice aC nC kC) := bA.c1
    have rbB0 : uz.cell? ⟨gbB, 0, none⟩ = some (.bool pD) := bB.c0
    have rbB1 : uz.cell? ⟨gbB, 1, none⟩ = some (.slice aD nD kD) := bB.c1
    go_wp2_with fail
    clear rbA0 rbA1 rbB0 rbB1
    go_at_call 38
    refine (div_ok _ _ M N _ LA LB dM dN hN).mono ?_
    rintro e u16 ⟨⟨pQ, aQ, nQ, kQ, pR, aR, nR, kR, rfl, LQ, LR⟩, hb⟩
    have hk : Below uz.heap.size uz u16 := by (repeat (first | with_reducible exact Below.refl _ _ | with_reducible assumption | refine Below.alloc ?_ (by (try simp); try omega) _ | refine Below.setCell ?_ (by (try simp); try omega) _ | refine below_drewN ?_ _ | refine Below.drew ?_ | (with_reducible refine Below.trans ?_ (Below.mono (by assumption) (by (try simp); try omega)))))
    clear hb
    replace LA := LA.keep hk
    replace LB := LB.keep hk
    replace bA := bA.keep hk
    replace bB := bB.keep hk
    replace hB := hB.trans (hk.mono hB.size)
    clear hk
    clear LA LB bA bB
    go_wp2_with fail
    have hX : Below u16.heap.size u16 ((u16.alloc (.cells #[.bool pQ, .slice aQ nQ kQ] 24)).alloc (.cells #[.bool pR, .slice aR nR kR] 24)) := by (repeat (first | with_reducible exact Below.refl _ _ | with_reducible assumption | refine Below.alloc ?_ (by (try simp); try omega) _ | refine Below.setCell ?_ (by (try simp); try omega) _ | refine below_drewN ?_ _ | refine Below.drew ?_ | (with_reducible refine Below.trans ?_ (Below.mono (by assumption) (by (try simp); try omega)))))
    have bQ : Bx ((u16.alloc (.cells #[.bool pQ, .slice aQ nQ kQ] 24)).alloc (.cells #[.bool pR, .slice aR nR kR] 24)) (u16.heap.size) (.bool pQ) (.slice aQ nQ kQ) 24 := by exact ((Bx.new u16 (.bool pQ) (.slice aQ nQ kQ) 24).alloc _)
    have gebQ : w.heap.size ≤ u16.heap.size := by have := hB.size; omega
    have bR : Bx ((u16.alloc (.cells #[.bool pQ, .slice aQ nQ kQ] 24)).alloc (.cells #[.bool pR, .slice aR nR kR] 24)) (u16.heap.size + 1) (.bool pR) (.slice aR nR kR) 24 := by have := (Bx.new (u16.alloc (.cells #[.bool pQ, .slice aQ nQ kQ] 24)) (.bool pR) (.slice aR nR kR) 24); simpa using this
    have gebR : w.heap.size ≤ u16.heap.size + 1 := by have := hB.size; omega
    replace LQ := LQ.keep hX
    replace LR := LR.keep hX
    replace hB := hB.trans (hX.mono hB.size)
    clear hX
    generalize ((u16.alloc (.cells #[.bool pQ, .slice aQ nQ kQ] 24)).alloc (.cells #[.bool pR, .slice aR nR kR] 24)) = v17 at *
    generalize hg0 : u16.heap.size = gbQ at *
    generalize hg1 : gbQ + 1 = gbR at *
    have ltbQbR : gbQ < gbR := by omega
    clear hg0 hg1
    have hq1 : -2147483648 ≤ M.tdiv N ∧ M.tdiv N ≤ 2147483648 := tdiv_bnd M0
    have hq2 : -2147483648 ≤ M.tmod N ∧ M.tmod N ≤ 2147483648 := tmod_bnd N0 hN
    have i3 : IntKind.i64.wrap (M.tdiv N) = M.tdiv N := IntWalk.i64_in _ (by omega)
    have i4 : IntKind.i64.wrap (M.tmod N) = M.tmod N := IntWalk.i64_in _ (by omega)
    go_region_held3 (fun w' => w'.cell? ⟨gbQ, 0, none⟩ = some (.bool pQ) ∧ w'.cell? ⟨gbQ, 1, none⟩ = some (.slice aQ nQ kQ) ∧ w'.cell? ⟨gbR, 0, none⟩ = some (.bool pR) ∧ w'.cell? ⟨gbR, 1, none⟩ = some (.slice aR nR kR))
      (first | exact ⟨bQ.c0, bQ.c1, bR.c0, bR.c1⟩)
      (first | (go_at_call 56; (with_reducible refine (itoa_sx (M.tdiv N) (by omega) (by omega) _ (hP.keep (by (repeat (first | with_reducible exact Below.refl _ _ | with_reducible assumption | refine Below.alloc ?_ (by (try simp); try omega) _ | refine Below.setCell ?_ (by (try simp); try omega) _ | refine below_drewN ?_ _ | refine Below.drew ?_ | (with_reducible refine Below.trans ?_ (Below.mono (by assumption) (by (try simp); try omega)))))))).mono ?_); rintro e uz ⟨rfl, hb⟩; (with_reducible (first | (replace hb := undrew3 (undrew3 hb)) | (replace hb := undrew3 hb) | skip)); replace LQ := LQ.keep hb; replace LR := LR.keep hb; replace bQ := bQ.keep hb; replace bR := bR.keep hb; replace hB := hB.trans (hb.mono hB.size); clear hb) | (go_at_call 56; (with_reducible refine (itoa_sx (M.tmod N) (by omega) (by omega) _ (hP.keep (by (repeat (first | with_reducible exact Below.refl _ _ | with_reducible assumption | refine Below.alloc ?_ (by (try simp); try omega) _ | refine Below.setCell ?_ (by (try simp); try omega) _ | refine below_drewN ?_ _ | refine Below.drew ?_ | (with_reducible refine Below.trans ?_ (Below.mono (by assumption) (by (try simp); try omega)))))))).mono ?_); rintro e uz ⟨rfl, hb⟩; (with_reducible (first | (replace hb := undrew3 (undrew3 hb)) | (replace hb := undrew3 hb) | skip)); replace LQ := LQ.keep hb; replace LR := LR.keep hb; replace bQ := bQ.keep hb; replace bR := bR.keep hb; replace hB := hB.trans (hb.mono hB.size); clear hb) | (go_at_call 55; (with_reducible refine (is_any _ _).mono ?_); rintro e uz ⟨bq, rfl, hq, hb⟩; (with_reducible (first | (replace hb := undrew3 (undrew3 hb)) | (replace hb := undrew3 hb) | skip)); replace LQ := LQ.keep hb; replace LR := LR.keep hb; replace bQ := bQ.keep hb; replace bR := bR.keep hb; replace hB := hB.trans (hb.mono hB.size); clear hb) | (go_at_call 90; (with_reducible refine (is1_true _ (M.tdiv N) bq _ _ (LQ.keep (by (repeat (first | with_reducible exact Below.refl _ _ | with_reducible assumption | refine Below.alloc ?_ (by (try simp); try omega) _ | refine Below.setCell ?_ (by (try simp); try omega) _ | refine below_drewN ?_ _ | refine Below.drew ?_ | (with_reducible refine Below.trans ?_ (Below.mono (by assumption) (by (try simp); try omega))))))) (Dl_int (by omega) (by omega)) (hP.keep (by (repeat (first | with_reducible exact Below.refl _ _ | with_reducible assumption | refine Below.alloc ?_ (by (try simp); try omega) _ | refine Below.setCell ?_ (by (try simp); try omega) _ | refine below_drewN ?_ _ | refine Below.drew ?_ | (with_reducible refine Below.trans ?_ (Below.mono (by assumption) (by (try simp); try omega))))))) (lkeep (by (repeat (first | with_reducible exact Below.refl _ _ | with_reducible assumption | refine Below.alloc ?_ (by (try simp); try omega) _ | refine Below.setCell ?_ (by (try simp); try omega) _ | refine below_drewN ?_ _ | refine Below.drew ?_ | (with_reducible refine Below.trans ?_ (Below.mono (by assumption) (by (try simp); try omega)))))) hq) rfl).mono ?_); rintro e uz ⟨rfl, hb⟩; (with_reducible (first | (replace hb := undrew3 (undrew3 hb)) | (replace hb := undrew3 hb) | skip)); replace LQ := LQ.keep hb; replace LR := LR.keep hb; replace bQ := bQ.keep hb; replace bR := bR.keep hb; replace hB := hB.trans (hb.mono hB.size); clear hb) | (go_at_call 90; (with_reducible refine (is1_true _ (M.tmod N) bq _ _ (LR.keep (by (repeat (first | with_reducible exact Below.refl _ _ | with_reducible assumption | refine Below.alloc ?_ (by (try simp); try omega) _ | refine Below.setCell ?_ (by (try simp); try omega) _ | refine below_drewN ?_ _ | refine Below.drew ?_ | (with_reducible refine Below.trans ?_ (Below.mono (by assumption) (by (try simp); try omega))))))) (Dl_int (by omega) (by omega)) (hP.keep (by (repeat (first | with_reducible exact Below.refl _ _ | with_reducible assumption | refine Below.alloc ?_ (by (try simp); try omega) _ | refine Below.setCell ?_ (by (try simp); try omega) _ | refine below_drewN ?_ _ | refine Below.drew ?_ | (with_reducible refine Below.trans ?_ (Below.mono (by assumption) (by (try simp); try omega))))))) (lkeep (by (repeat (first | with_reducible exact Below.refl _ _ | with_reducible assumption | refine Below.alloc ?_ (by (try simp); try omega) _ | refine Below.setCell ?_ (by (try simp); try omega) _ | refine below_drewN ?_ _ | refine Below.drew ?_ | (with_reducible refine Below.trans ?_ (Below.mono (by assumption) (by (try simp); try omega)))))) hq) rfl).mono ?_); rintro e uz ⟨rfl, hb⟩; (with_reducible (first | (replace hb := undrew3 (undrew3 hb)) | (replace hb := undrew3 hb) | skip)); replace LQ := LQ.keep hb; replace LR := LR.keep hb; replace bQ := bQ.keep hb; replace bR := bR.keep hb; replace hB := hB.trans (hb.mono hB.size); clear hb))
    go_wp2
    go_ret
    exact ⟨rfl, hB⟩
end Go.Proofs.YtoppdbgodceaiaaDoor
