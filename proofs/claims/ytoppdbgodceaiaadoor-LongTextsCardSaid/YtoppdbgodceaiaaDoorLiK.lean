/-
  LongSquares: the walk.
-/
import Derived.Test.YtoppdbgodceaiaaDoorLiD
import Derived.Test.YtoppdbgodceaiaaDoorLiE
import Derived.Test.YtoppdbgodceaiaaDoorLhH
import Derived.Deep.Cut
namespace Go.Proofs.YtoppdbgodceaiaaDoor
open Go.RowKit

theorem cmpI_le {x y : Int} (h : x ≤ y) : cmpI x y ≤ 0 := by 
  rcases Int.lt_or_eq_of_le h with h | h
  · rw [cmpI_lt h]; omega
  · rw [cmpI_eq h]; omega
theorem sqrt_okE (A : Value) (x r : Int) (w : World) (hA : Lg w A x) (x0 : 0 ≤ x) (l1 : Dl x ≤ 600) (e : rt x = r) :
    Calls Tryd.prog 47 #[A] w fun e w' => OkL r e w' ∧ Below w.heap.size w w' := by
  subst e; exact sqrt_ok A x w hA x0 l1
theorem same_lg (A B : Value) (z : Int) (w : World) (hA : Lg w A z) (hB : Lg w B z) (l1 : Dl z ≤ 600) :
    Calls Tryd.prog 27 #[A, B] w fun e w' => e = .returned (.bool true) ∧ Below w.heap.size w w' := by
  obtain ⟨s1, rfl, h1⟩ := hA
  obtain ⟨s2, rfl, h2⟩ := hB
  have := same_any (decide (z < 0)) (decide (z < 0)) s1 s2 _ _ w h1 h2 (by unfold Dl at l1; omega) (by unfold Dl at l1; omega)
  simpa using this
theorem sq_lt {y : Int} (h : 0 ≤ y) : y * y < (y + 1) * (y + 1) := by
  have : (y + 1) * (y + 1) = y * y + 2 * y + 1 := by grind
  omega
theorem cmpI_gt' {x y : Int} (h : y < x) : cmpI x y = 1 := cmpI_gt h
set_option maxRecDepth 100000 in
set_option maxHeartbeats 8000000 in
theorem longSquares_true (b5 : Bool) (k5 : Int) (s5 : Value) (m5 : List Int) (w : World) (hP : Pw w) (K50 : 0 ≤ k5) (K51 : k5 ≤ 255) (W5 : Wd w s5 m5) :
    Calls Tryd.prog 12 #[.agg #[.bool b5, .int .u8 k5, s5]] w fun e w' => e = .returned (.bool true) ∧ Below w.heap.size w w' := by
  have hx := drLong_Dl (b := b5) (k := k5) (m := m5) (fun x hx => (W5.choose_spec.choose_spec.2.2.1 x hx).1) K50
  have W5' := W5
  obtain ⟨q5, r5, rfl, _⟩ := W5'
  have hB : Below w.heap.size w (w.alloc (.cells #[.bool b5, .int .u8 k5, .slice q5 m5.length r5] 27)) := by (repeat (first | with_reducible exact Below.refl _ _ | with_reducible assumption | refine Below.alloc ?_ (by (try simp); try omega) _ | refine Below.setCell ?_ (by (try simp); try omega) _ | refine below_drewN ?_ _ | refine Below.drew ?_ | (with_reducible refine Below.trans ?_ (Below.mono (by assumption) (by (try simp); try omega)))))
  have d0 : (w.alloc (.cells #[.bool b5, .int .u8 k5, .slice q5 m5.length r5] 27)).cell? ⟨w.heap.size, 0, none⟩ = some (.bool b5) := by simp
  have d1 : (w.alloc (.cells #[.bool b5, .int .u8 k5, .slice q5 m5.length r5] 27)).cell? ⟨w.heap.size, 1, none⟩ = some (.int .u8 k5) := by simp
  have d2 : (w.alloc (.cells #[.bool b5, .int .u8 k5, .slice q5 m5.length r5] 27)).cell? ⟨w.heap.size, 2, none⟩ = some (.slice q5 m5.length r5) := by simp
  go_enter Tryd.func12, Tryd.ntmps12
  go_wp2_with fail
  generalize w.alloc (.cells #[.bool b5, .int .u8 k5, .slice q5 m5.length r5] 27) = w1 at *
  obtain ⟨g, hg⟩ : ∃ g, w.heap.size = g := ⟨_, rfl⟩
  simp only [hg] at d0 d1 d2 ⊢
  rw [← hg]
  go_at_call 16
  refine (works_true _ (hP.keep hB)).mono ?_
  rintro e u1 ⟨rfl, hb⟩
  have hk : Below w1.heap.size w1 u1 := by (repeat (first | with_reducible exact Below.refl _ _ | with_reducible assumption | refine Below.alloc ?_ (by (try simp); try omega) _ | refine Below.setCell ?_ (by (try simp); try omega) _ | refine below_drewN ?_ _ | refine Below.drew ?_ | (with_reducible refine Below.trans ?_ (Below.mono (by assumption) (by (try simp); try omega)))))
  clear hb
  replace d0 := lkeep hk d0
  replace d1 := lkeep hk d1
  replace d2 := lkeep hk d2
  replace hB := hB.trans (hk.mono hB.size)
  clear hk
  go_wp2_with fail
  go_at_call 44
  refine (drLong_any b5 k5 _ m5 _ K50 K51 (W5.keep hB)).mono ?_
  rintro e u2 ⟨⟨pA, aA, nA, kA, rfl, LA⟩, hb⟩
  have hk : Below u1.heap.size u1 u2 := by (repeat (first | with_reducible exact Below.refl _ _ | with_reducible assumption | refine Below.alloc ?_ (by (try simp); try omega) _ | refine Below.setCell ?_ (by (try simp); try omega) _ | refine below_drewN ?_ _ | refine Below.drew ?_ | (with_reducible refine Below.trans ?_ (Below.mono (by assumption) (by (try simp); try omega)))))
  clear hb
  clear d0 d1 d2
  replace hB := hB.trans (hk.mono hB.size)
  clear hk
  generalize drLongZ b5 k5 m5 = x at *
  go_wp2_with fail
  go_at_call 54
  refine (size_num _ x _ LA).mono ?_
  rintro e u3 ⟨⟨pS, aS, nS, kS, rfl, LS⟩, hb⟩
  have hk : Below u2.heap.size u2 u3 := by (repeat (first | with_reducible exact Below.refl _ _ | with_reducible assumption | refine Below.alloc ?_ (by (try simp); try omega) _ | refine Below.setCell ?_ (by (try simp); try omega) _ | refine below_drewN ?_ _ | refine Below.drew ?_ | (with_reducible refine Below.trans ?_ (Below.mono (by assumption) (by (try simp); try omega)))))
  clear hb
  replace LA := LA.keep hk
  replace hB := hB.trans (hk.mono hB.size)
  clear hk
  clear LA
  have hy : Dl (x.natAbs : Int) ≤ 47 := by have := Dl_mono (x := (x.natAbs : Int)) (y := x) (by omega); omega
  have y0 : 0 ≤ (x.natAbs : Int) := by omega
  generalize (x.natAbs : Int) = y at *
  clear hx
  have hr := rt_spec y y0
  have hr1 := rt_le_self y0
  have hrD := Dl_rt y0
  have hrr := Dl_mul (rt y) (rt y)
  have hr2 := Dl_add (rt y) 1
  have hyy := Dl_mul y y
  have hrt : rt (y * y) = y := rt_uniq (by omega) (by omega) (sq_lt y0)
  have h1D : Dl 1 ≤ 2 := Dl_two (by omega) (by omega)
  have hnn := Dl_mul (rt y + 1) (rt y + 1)
  have yy0 := Int.mul_nonneg y0 y0
  have hc1 := cmpI_le hr.2.1
  have hc2 : cmpI ((rt y + 1) * (rt y + 1)) y = 1 := cmpI_gt hr.2.2
  obtain ⟨r, hrE⟩ : ∃ r, rt y = r := ⟨_, rfl⟩
  rw [hrE] at hr hr1 hrD hrr hr2 hnn hc1 hc2
  have HrE := Lib.hid hrE
  have HrT := Lib.hid hrt
  clear hrE hrt
  go_wp2_with fail
  have hX : Below u3.heap.size u3 (u3.alloc (.cells #[.bool pS, .slice aS nS kS] 24)) := by (repeat (first | with_reducible exact Below.refl _ _ | with_reducible assumption | refine Below.alloc ?_ (by (try simp); try omega) _ | refine Below.setCell ?_ (by (try simp); try omega) _ | refine below_drewN ?_ _ | refine Below.drew ?_ | (with_reducible refine Below.trans ?_ (Below.mono (by assumption) (by (try simp); try omega)))))
  have bA : Bx (u3.alloc (.cells #[.bool pS, .slice aS nS kS] 24)) (u3.heap.size) (.bool pS) (.slice aS nS kS) 24 := by exact (Bx.new u3 (.bool pS) (.slice aS nS kS) 24)
  have gebA : w.heap.size ≤ u3.heap.size := by have := hB.size; omega
  replace LS := LS.keep hX
  replace hB := hB.trans (hX.mono hB.size)
  clear hX
  generalize (u3.alloc (.cells #[.bool pS, .slice aS nS kS] 24)) = v4 at *
  generalize u3.heap.size = gbA at *
  go_at_call 47
  refine (sqrt_okE _ y r _ LS y0 (by omega) HrE.out).mono ?_
  rintro e u5 ⟨⟨pR, aR, nR, kR, rfl, LR⟩, hb⟩
  have hk : Below v4.heap.size v4 u5 := by (repeat (first | with_reducible exact Below.refl _ _ | with_reducible assumption | refine Below.alloc ?_ (by (try simp); try omega) _ | refine Below.setCell ?_ (by (try simp); try omega) _ | refine below_drewN ?_ _ | refine Below.drew ?_ | (with_reducible refine Below.trans ?_ (Below.mono (by assumption) (by (try simp); try omega)))))
  clear hb
  replace LS := LS.keep hk
  replace bA := bA.keep hk
  replace hB := hB.trans (hk.mono hB.size)
  clear hk
  go_wp2_with fail
  have hX : Below u5.heap.size u5 (u5.alloc (.cells #[.bool pR, .slice aR nR kR] 24)) := by (repeat (first | with_reducible exact Below.refl _ _ | with_reducible assumption | refine Below.alloc ?_ (by (try simp); try omega) _ | refine Below.setCell ?_ (by (try simp); try omega) _ | refine below_drewN ?_ _ | refine Below.drew ?_ | (with_reducible refine Below.trans ?_ (Below.mono (by assumption) (by (try simp); try omega)))))
  have bR : Bx (u5.alloc (.cells #[.bool pR, .slice aR nR kR] 24)) (u5.heap.size) (.bool pR) (.slice aR nR kR) 24 := by exact (Bx.new u5 (.bool pR) (.slice aR nR kR) 24)
  have gebR : w.heap.size ≤ u5.heap.size := by have := hB.size; omega
  have ltbAbR : gbA < u5.heap.size := by have := bA.lt; omega
  replace LS := LS.keep hX
  replace LR := LR.keep hX
  replace bA := bA.keep hX
  replace hB := hB.trans (hX.mono hB.size)
  clear hX
  generalize (u5.alloc (.cells #[.bool pR, .slice aR nR kR] 24)) = v6 at *
  generalize u5.heap.size = gbR at *
  go_at_call 36
  refine (mul_ok _ _ r r _ LR LR (by omega) (by omega) (by omega)).mono ?_
  rintro e u7 ⟨⟨pM, aM, nM, kM, rfl, LM⟩, hb⟩
  have hk : Below v6.heap.size v6 u7 := by (repeat (first | with_reducible exact Below.refl _ _ | with_reducible assumption | refine Below.alloc ?_ (by (try simp); try omega) _ | refine Below.setCell ?_ (by (try simp); try omega) _ | refine below_drewN ?_ _ | refine Below.drew ?_ | (with_reducible refine Below.trans ?_ (Below.mono (by assumption) (by (try simp); try omega)))))
  clear hb
  replace LS := LS.keep hk
  replace LR := LR.keep hk
  replace bA := bA.keep hk
  replace bR := bR.keep hk
  replace hB := hB.trans (hk.mono hB.size)
  clear hk
  have rbA0 : (u7.alloc (.cells #[.bool pM, .slice aM nM kM] 24)).cell? ⟨gbA, 0, none⟩ = some (.bool pS) := (bA.alloc _).c0
  have rbA1 : (u7.alloc (.cells #[.bool pM, .slice aM nM kM] 24)).cell? ⟨gbA, 1, none⟩ = some (.slice aS nS kS) := (bA.alloc _).c1
  go_wp2_with fail
  clear rbA0 rbA1
  have hX : Below u7.heap.size u7 (u7.alloc (.cells #[.bool pM, .slice aM nM kM] 24)) := by (repeat (first | with_reducible exact Below.refl _ _ | with_reducible assumption | refine Below.alloc ?_ (by (try simp); try omega) _ | refine Below.setCell ?_ (by (try simp); try omega) _ | refine below_drewN ?_ _ | refine Below.drew ?_ | (with_reducible refine Below.trans ?_ (Below.mono (by assumption) (by (try simp); try omega)))))
  have bS : Bx (u7.alloc (.cells #[.bool pM, .slice aM nM kM] 24)) (u7.heap.size) (.bool pM) (.slice aM nM kM) 24 := by exact (Bx.new u7 (.bool pM) (.slice aM nM kM) 24)
  have gebS : w.heap.size ≤ u7.heap.size := by have := hB.size; omega
  have ltbAbS : gbA < u7.heap.size := by have := bA.lt; omega
  have ltbRbS : gbR < u7.heap.size := by have := bR.lt; omega
  replace LS := LS.keep hX
  replace LR := LR.keep hX
  replace LM := LM.keep hX
  replace bA := bA.keep hX
  replace bR := bR.keep hX
  replace hB := hB.trans (hX.mono hB.size)
  clear hX
  generalize (u7.alloc (.cells #[.bool pM, .slice aM nM kM] 24)) = v8 at *
  generalize u7.heap.size = gbS at *
  go_at_call 21
  refine (cmp_num _ _ (r * r) y _ LM LS (by unfold Dl at *; omega) (by unfold Dl at *; omega)).mono ?_
  rintro e u9 ⟨rfl, hb⟩
  have hk : Below v8.heap.size v8 u9 := by (repeat (first | with_reducible exact Below.refl _ _ | with_reducible assumption | refine Below.alloc ?_ (by (try simp); try omega) _ | refine Below.setCell ?_ (by (try simp); try omega) _ | refine below_drewN ?_ _ | refine Below.drew ?_ | (with_reducible refine Below.trans ?_ (Below.mono (by assumption) (by (try simp); try omega)))))
  clear hb
  replace LS := LS.keep hk
  replace LR := LR.keep hk
  replace LM := LM.keep hk
  replace bA := bA.keep hk
  replace bR := bR.keep hk
  replace bS := bS.keep hk
  replace hB := hB.trans (hk.mono hB.size)
  clear hk
  obtain ⟨cc, hcc⟩ : ∃ cc, cmpI (r * r) y = cc := ⟨_, rfl⟩
  rw [hcc] at hc1 ⊢
  clear hcc
  clear LM
  have hc0 : ¬ (0 < cc) := by omega
  have dR : Dl r ≤ 600 := by omega
  have dR1 : Dl (r + 1) ≤ 600 := by omega
  have d1 : Dl 1 ≤ 600 := by omega
  go_upto_region 9 with fail
  have ubA := bA.lt
  have ubR := bR.lt
  have ubS := bS.lt
  go_cut [5, 10] from 11 (fun v5 v10 wx => ∃ (gN : Nat) (pN : Bool) (aN : Option Addr) (nN kN : Nat), v5 = .int .i64 0 ∧ v10 = .pointer (some ⟨gN, 0, none⟩) ∧ Bx wx gN (.bool pN) (.slice aN nN kN) 24 ∧ Lg wx (.agg #[.bool pN, .slice aN nN kN]) (r + 1) ∧ u9.heap.size ≤ gN ∧ Below u9.heap.size u9 wx)
  case first =>
    have hU := Below.refl u9.heap.size u9
    have lw := hB.size
    have ltR := bR.lt
    go_region_held3 (fun w' => w'.cell? ⟨gbR, 0, none⟩ = some (.bool pR) ∧ w'.cell? ⟨gbR, 1, none⟩ = some (.slice aR nR kR))
      (first | exact ⟨bR.c0, bR.c1⟩ | exact ⟨(bR.farP (by omega) _ _).c0, (bR.farP (by omega) _ _).c1⟩ | exact ⟨(bR.keep (by (repeat (first | with_reducible exact Below.refl _ _ | with_reducible assumption | refine Below.alloc ?_ (by (try simp); try omega) _ | refine Below.setCell ?_ (by (try simp); try omega) _ | refine below_drewN ?_ _ | refine Below.drew ?_ | (with_reducible refine Below.trans ?_ (Below.mono (by assumption) (by (try simp); try omega))))))).c0, (bR.keep (by (repeat (first | with_reducible exact Below.refl _ _ | with_reducible assumption | refine Below.alloc ?_ (by (try simp); try omega) _ | refine Below.setCell ?_ (by (try simp); try omega) _ | refine below_drewN ?_ _ | refine Below.drew ?_ | (with_reducible refine Below.trans ?_ (Below.mono (by assumption) (by (try simp); try omega))))))).c1⟩)
      (first | (go_at_call 18; (with_reducible refine (ofInt_ok 1 _ (by omega) (by omega)).mono ?_); rintro e uz ⟨⟨p1, a1, n1, k1, rfl, L1⟩, hb⟩; (with_reducible (first | (replace hb := undrew3 (undrew3 hb)) | (replace hb := undrew3 hb) | skip)); replace LR := LR.keep (w' := uz) (by (repeat (first | with_reducible exact Below.refl _ _ | with_reducible assumption | refine Below.alloc ?_ (by (try simp); try omega) _ | refine Below.setCell ?_ (by (try simp); try omega) _ | refine below_drewN ?_ _ | refine Below.drew ?_ | (with_reducible refine Below.trans ?_ (Below.mono (by assumption) (by (try simp); try omega)))))); replace bR := bR.keep (w' := uz) (by (repeat (first | with_reducible exact Below.refl _ _ | with_reducible assumption | refine Below.alloc ?_ (by (try simp); try omega) _ | refine Below.setCell ?_ (by (try simp); try omega) _ | refine below_drewN ?_ _ | refine Below.drew ?_ | (with_reducible refine Below.trans ?_ (Below.mono (by assumption) (by (try simp); try omega)))))); have lz := hb.size; (first | (replace nb := nb.keep hb) | (have nb := Bx.keep (Bx.new _ _ _ _) hb) | skip); (first | (have nb0 := nb.c0; have nb1 := nb.c1; have nb2 := nb.f 0; have nb3 := nb.f 1; have nb4 := nb.lt) | skip); have hB2 : Below w.heap.size w uz := (by (repeat (first | with_reducible exact Below.refl _ _ | with_reducible assumption | refine Below.alloc ?_ (by (try simp); try omega) _ | refine Below.setCell ?_ (by (try simp); try omega) _ | refine below_drewN ?_ _ | refine Below.drew ?_ | (with_reducible refine Below.trans ?_ (Below.mono (by assumption) (by (try simp); try omega)))))); clear hB; have hB := hB2; clear hB2; have lw := hB.size) | (go_at_call 29; (with_reducible refine (add_ok _ _ r 1 _ (by first | exact LR | exact LR.keep (by (repeat (first | with_reducible exact Below.refl _ _ | with_reducible assumption | refine Below.alloc ?_ (by (try simp); try omega) _ | refine Below.setCell ?_ (by (try simp); try omega) _ | refine below_drewN ?_ _ | refine Below.drew ?_ | (with_reducible refine Below.trans ?_ (Below.mono (by assumption) (by (try simp); try omega))))))) (by first | exact L1 | exact L1.keep (by (repeat (first | with_reducible exact Below.refl _ _ | with_reducible assumption | refine Below.alloc ?_ (by (try simp); try omega) _ | refine Below.setCell ?_ (by (try simp); try omega) _ | refine below_drewN ?_ _ | refine Below.drew ?_ | (with_reducible refine Below.trans ?_ (Below.mono (by assumption) (by (try simp); try omega))))))) dR d1 dR1).mono ?_); rintro e uz ⟨⟨pN, aN, nN, kN, rfl, LN⟩, hb⟩; (with_reducible (first | (replace hb := undrew3 (undrew3 hb)) | (replace hb := undrew3 hb) | skip)); replace LR := LR.keep (w' := uz) (by (repeat (first | with_reducible exact Below.refl _ _ | with_reducible assumption | refine Below.alloc ?_ (by (try simp); try omega) _ | refine Below.setCell ?_ (by (try simp); try omega) _ | refine below_drewN ?_ _ | refine Below.drew ?_ | (with_reducible refine Below.trans ?_ (Below.mono (by assumption) (by (try simp); try omega)))))); replace bR := bR.keep (w' := uz) (by (repeat (first | with_reducible exact Below.refl _ _ | with_reducible assumption | refine Below.alloc ?_ (by (try simp); try omega) _ | refine Below.setCell ?_ (by (try simp); try omega) _ | refine below_drewN ?_ _ | refine Below.drew ?_ | (with_reducible refine Below.trans ?_ (Below.mono (by assumption) (by (try simp); try omega)))))); have lz := hb.size; (first | (replace nb := nb.keep hb) | (have nb := Bx.keep (Bx.new _ _ _ _) hb) | skip); (first | (have nb0 := nb.c0; have nb1 := nb.c1; have nb2 := nb.f 0; have nb3 := nb.f 1; have nb4 := nb.lt) | skip); have hB2 : Below w.heap.size w uz := (by (repeat (first | with_reducible exact Below.refl _ _ | with_reducible assumption | refine Below.alloc ?_ (by (try simp); try omega) _ | refine Below.setCell ?_ (by (try simp); try omega) _ | refine below_drewN ?_ _ | refine Below.drew ?_ | (with_reducible refine Below.trans ?_ (Below.mono (by assumption) (by (try simp); try omega)))))); clear hB; have hB := hB2; clear hB2; have lw := hB.size))
    all_goals (go_wp2_with fail; go_meet)
    all_goals clear hB
    · exact ⟨_, _, _, _, _, rfl, rfl, Bx.new _ _ _ _, LN.keep (by (repeat (first | with_reducible exact Below.refl _ _ | with_reducible assumption | refine Below.alloc ?_ (by (try simp); try omega) _ | refine Below.setCell ?_ (by (try simp); try omega) _ | refine below_drewN ?_ _ | refine Below.drew ?_ | (with_reducible refine Below.trans ?_ (Below.mono (by assumption) (by (try simp); try omega)))))), by omega, by (repeat (first | with_reducible exact Below.refl _ _ | with_reducible assumption | refine Below.alloc ?_ (by (try simp); try omega) _ | refine Below.setCell ?_ (by (try simp); try omega) _ | refine below_drewN ?_ _ | refine Below.drew ?_ | (with_reducible refine Below.trans ?_ (Below.mono (by assumption) (by (try simp); try omega)))))⟩
    · exact ⟨_, _, _, _, _, rfl, rfl, nb.putP _ _, LN.put nb _ _ _ _, by omega, by (repeat (first | with_reducible exact Below.refl _ _ | with_reducible assumption | refine Below.alloc ?_ (by (try simp); try omega) _ | refine Below.setCell ?_ (by (try simp); try omega) _ | refine below_drewN ?_ _ | refine Below.drew ?_ | (with_reducible refine Below.trans ?_ (Below.mono (by assumption) (by (try simp); try omega)))))⟩
    · exact ⟨_, _, _, _, _, rfl, rfl, nb.putP _ _, LN.put nb _ _ _ _, by omega, by (repeat (first | with_reducible exact Below.refl _ _ | with_reducible assumption | refine Below.alloc ?_ (by (try simp); try omega) _ | refine Below.setCell ?_ (by (try simp); try omega) _ | refine below_drewN ?_ _ | refine Below.drew ?_ | (with_reducible refine Below.trans ?_ (Below.mono (by assumption) (by (try simp); try omega)))))⟩
  case rest =>
    obtain ⟨gbN, pN, aN, nN, kN, rfl, rfl, bN, LN, hgN, hX⟩ := hcut
    replace LS := LS.keep hX
    replace LR := LR.keep hX
    replace bA := bA.keep hX
    replace bR := bR.keep hX
    replace bS := bS.keep hX
    replace hB := hB.trans (hX.mono hB.size)
    clear hX
    have ltbAbN : gbA < gbN := by omega
    have ltbRbN : gbR < gbN := by omega
    have ltbSbN : gbS < gbN := by omega
    clear hgN ubA ubR ubS
    have rbN0 : wc.cell? ⟨gbN, 0, none⟩ = some (.bool pN) := bN.c0
    have rbN1 : wc.cell? ⟨gbN, 1, none⟩ = some (.slice aN nN kN) := bN.c1
    go_wp2_with fail
    clear rbN0 rbN1
    go_at_call 36
    refine (mul_ok _ _ (r + 1) (r + 1) _ LN LN dR1 dR1 (by omega)).mono ?_
    rintro e u10 ⟨⟨pQ, aQ, nQ, kQ, rfl, LQ⟩, hb⟩
    have hk : Below wc.heap.size wc u10 := by (repeat (first | with_reducible exact Below.refl _ _ | with_reducible assumption | refine Below.alloc ?_ (by (try simp); try omega) _ | refine Below.setCell ?_ (by (try simp); try omega) _ | refine below_drewN ?_ _ | refine Below.drew ?_ | (with_reducible refine Below.trans ?_ (Below.mono (by assumption) (by (try simp); try omega)))))
    clear hb
    replace LS := LS.keep hk
    replace LR := LR.keep hk
    replace LN := LN.keep hk
    replace bA := bA.keep hk
    replace bR := bR.keep hk
    replace bS := bS.keep hk
    replace bN := bN.keep hk
    replace hB := hB.trans (hk.mono hB.size)
    clear hk
    have rbS0 := bS.c0
    have rbS1 := bS.c1
    have zbS0 := bS.f 0
    have zbS1 := bS.f 1
    have rbA0 : ((u10.setCell ⟨gbS, 0, none⟩ (.bool pQ)).setCell ⟨gbS, 1, none⟩ (.slice aQ nQ kQ)).cell? ⟨gbA, 0, none⟩ = some (.bool pS) := (bA.farP (by omega) _ _).c0
    have rbA1 : ((u10.setCell ⟨gbS, 0, none⟩ (.bool pQ)).setCell ⟨gbS, 1, none⟩ (.slice aQ nQ kQ)).cell? ⟨gbA, 1, none⟩ = some (.slice aS nS kS) := (bA.farP (by omega) _ _).c1
    go_wp2_with fail
    clear rbS0 rbS1 zbS0 zbS1 rbA0 rbA1
    replace bA : Bx ((u10.setCell ⟨gbS, 0, none⟩ (.bool pQ)).setCell ⟨gbS, 1, none⟩ (.slice aQ nQ kQ)) _ _ _ _ := bA.farP (by omega) _ _
    replace bR : Bx ((u10.setCell ⟨gbS, 0, none⟩ (.bool pQ)).setCell ⟨gbS, 1, none⟩ (.slice aQ nQ kQ)) _ _ _ _ := bR.farP (by omega) _ _
    replace bN : Bx ((u10.setCell ⟨gbS, 0, none⟩ (.bool pQ)).setCell ⟨gbS, 1, none⟩ (.slice aQ nQ kQ)) _ _ _ _ := bN.farP (by omega) _ _
    replace LS : Lg ((u10.setCell ⟨gbS, 0, none⟩ (.bool pQ)).setCell ⟨gbS, 1, none⟩ (.slice aQ nQ kQ)) _ _ := LS.put bS _ _ _ _
    replace LR : Lg ((u10.setCell ⟨gbS, 0, none⟩ (.bool pQ)).setCell ⟨gbS, 1, none⟩ (.slice aQ nQ kQ)) _ _ := LR.put bS _ _ _ _
    replace LN : Lg ((u10.setCell ⟨gbS, 0, none⟩ (.bool pQ)).setCell ⟨gbS, 1, none⟩ (.slice aQ nQ kQ)) _ _ := LN.put bS _ _ _ _
    replace LQ : Lg ((u10.setCell ⟨gbS, 0, none⟩ (.bool pQ)).setCell ⟨gbS, 1, none⟩ (.slice aQ nQ kQ)) _ _ := LQ.put bS _ _ _ _
    replace bS : Bx ((u10.setCell ⟨gbS, 0, none⟩ (.bool pQ)).setCell ⟨gbS, 1, none⟩ (.slice aQ nQ kQ)) _ _ _ _ := bS.putP _ _
    replace hB : Below w.heap.size w ((u10.setCell ⟨gbS, 0, none⟩ (.bool pQ)).setCell ⟨gbS, 1, none⟩ (.slice aQ nQ kQ)) := (hB.setCell gebS _).setCell gebS _
    generalize ((u10.setCell ⟨gbS, 0, none⟩ (.bool pQ)).setCell ⟨gbS, 1, none⟩ (.slice aQ nQ kQ)) = v110 at *
    go_at_call 21
    refine (cmp_num _ _ ((r + 1) * (r + 1)) y _ LQ LS (by unfold Dl at *; omega) (by unfold Dl at *; omega)).mono ?_
    rintro e u12 ⟨rfl, hb⟩
    have hk : Below v110.heap.size v110 u12 := by (repeat (first | with_reducible exact Below.refl _ _ | with_reducible assumption | refine Below.alloc ?_ (by (try simp); try omega) _ | refine Below.setCell ?_ (by (try simp); try omega) _ | refine below_drewN ?_ _ | refine Below.drew ?_ | (with_reducible refine Below.trans ?_ (Below.mono (by assumption) (by (try simp); try omega)))))
    clear hb
    replace LS := LS.keep hk
    replace LR := LR.keep hk
    replace LN := LN.keep hk
    replace LQ := LQ.keep hk
    replace bA := bA.keep hk
    replace bR := bR.keep hk
    replace bS := bS.keep hk
    replace bN := bN.keep hk
    replace hB := hB.trans (hk.mono hB.size)
    clear hk
    rw [hc2]
    have rbA0 : u12.cell? ⟨gbA, 0, none⟩ = some (.bool pS) := bA.c0
    have rbA1 : u12.cell? ⟨gbA, 1, none⟩ = some (.slice aS nS kS) := bA.c1
    go_wp2_with fail
    clear rbA0 rbA1
    go_at_call 36
    refine (mul_ok _ _ y y _ LS LS (by omega) (by omega) (by omega)).mono ?_
    rintro e u13 ⟨⟨pW, aW, nW, kW, rfl, LW⟩, hb⟩
    have hk : Below u12.heap.size u12 u13 := by (repeat (first | with_reducible exact Below.refl _ _ | with_reducible assumption | refine Below.alloc ?_ (by (try simp); try omega) _ | refine Below.setCell ?_ (by (try simp); try omega) _ | refine below_drewN ?_ _ | refine Below.drew ?_ | (with_reducible refine Below.trans ?_ (Below.mono (by assumption) (by (try simp); try omega)))))
    clear hb
    replace LS := LS.keep hk
    replace LR := LR.keep hk
    replace LN := LN.keep hk
    replace LQ := LQ.keep hk
    replace bA := bA.keep hk
    replace bR := bR.keep hk
    replace bS := bS.keep hk
    replace bN := bN.keep hk
    replace hB := hB.trans (hk.mono hB.size)
    clear hk
    have rbS0 := bS.c0
    have rbS1 := bS.c1
    have zbS0 := bS.f 0
    have zbS1 := bS.f 1
    go_wp2_with fail
    clear rbS0 rbS1 zbS0 zbS1
    replace bA : Bx ((u13.setCell ⟨gbS, 0, none⟩ (.bool pW)).setCell ⟨gbS, 1, none⟩ (.slice aW nW kW)) _ _ _ _ := bA.farP (by omega) _ _
    replace bR : Bx ((u13.setCell ⟨gbS, 0, none⟩ (.bool pW)).setCell ⟨gbS, 1, none⟩ (.slice aW nW kW)) _ _ _ _ := bR.farP (by omega) _ _
    replace bN : Bx ((u13.setCell ⟨gbS, 0, none⟩ (.bool pW)).setCell ⟨gbS, 1, none⟩ (.slice aW nW kW)) _ _ _ _ := bN.farP (by omega) _ _
    replace LS : Lg ((u13.setCell ⟨gbS, 0, none⟩ (.bool pW)).setCell ⟨gbS, 1, none⟩ (.slice aW nW kW)) _ _ := LS.put bS _ _ _ _
    replace LR : Lg ((u13.setCell ⟨gbS, 0, none⟩ (.bool pW)).setCell ⟨gbS, 1, none⟩ (.slice aW nW kW)) _ _ := LR.put bS _ _ _ _
    replace LN : Lg ((u13.setCell ⟨gbS, 0, none⟩ (.bool pW)).setCell ⟨gbS, 1, none⟩ (.slice aW nW kW)) _ _ := LN.put bS _ _ _ _
    replace LQ : Lg ((u13.setCell ⟨gbS, 0, none⟩ (.bool pW)).setCell ⟨gbS, 1, none⟩ (.slice aW nW kW)) _ _ := LQ.put bS _ _ _ _
    replace LW : Lg ((u13.setCell ⟨gbS, 0, none⟩ (.bool pW)).setCell ⟨gbS, 1, none⟩ (.slice aW nW kW)) _ _ := LW.put bS _ _ _ _
    replace bS : Bx ((u13.setCell ⟨gbS, 0, none⟩ (.bool pW)).setCell ⟨gbS, 1, none⟩ (.slice aW nW kW)) _ _ _ _ := bS.putP _ _
    replace hB : Below w.heap.size w ((u13.setCell ⟨gbS, 0, none⟩ (.bool pW)).setCell ⟨gbS, 1, none⟩ (.slice aW nW kW)) := (hB.setCell gebS _).setCell gebS _
    generalize ((u13.setCell ⟨gbS, 0, none⟩ (.bool pW)).setCell ⟨gbS, 1, none⟩ (.slice aW nW kW)) = v140 at *
    go_at_call 47
    refine (sqrt_okE _ (y * y) y _ LW yy0 (by omega) HrT.out).mono ?_
    rintro e u15 ⟨⟨pV, aV, nV, kV, rfl, LV⟩, hb⟩
    have hk : Below v140.heap.size v140 u15 := by (repeat (first | with_reducible exact Below.refl _ _ | with_reducible assumption | refine Below.alloc ?_ (by (try simp); try omega) _ | refine Below.setCell ?_ (by (try simp); try omega) _ | refine below_drewN ?_ _ | refine Below.drew ?_ | (with_reducible refine Below.trans ?_ (Below.mono (by assumption) (by (try simp); try omega)))))
    clear hb
    replace LS := LS.keep hk
    replace LR := LR.keep hk
    replace LN := LN.keep hk
    replace LQ := LQ.keep hk
    replace LW := LW.keep hk
    replace bA := bA.keep hk
    replace bR := bR.keep hk
    replace bS := bS.keep hk
    replace bN := bN.keep hk
    replace hB := hB.trans (hk.mono hB.size)
    clear hk
    have rbR0 := bR.c0
    have rbR1 := bR.c1
    have zbR0 := bR.f 0
    have zbR1 := bR.f 1
    have rbA0 : ((u15.setCell ⟨gbR, 0, none⟩ (.bool pV)).setCell ⟨gbR, 1, none⟩ (.slice aV nV kV)).cell? ⟨gbA, 0, none⟩ = some (.bool pS) := (bA.farP (by omega) _ _).c0
    have rbA1 : ((u15.setCell ⟨gbR, 0, none⟩ (.bool pV)).setCell ⟨gbR, 1, none⟩ (.slice aV nV kV)).cell? ⟨gbA, 1, none⟩ = some (.slice aS nS kS) := (bA.farP (by omega) _ _).c1
    go_wp2_with fail
    clear rbR0 rbR1 zbR0 zbR1 rbA0 rbA1
    replace bA : Bx ((u15.setCell ⟨gbR, 0, none⟩ (.bool pV)).setCell ⟨gbR, 1, none⟩ (.slice aV nV kV)) _ _ _ _ := bA.farP (by omega) _ _
    replace bS : Bx ((u15.setCell ⟨gbR, 0, none⟩ (.bool pV)).setCell ⟨gbR, 1, none⟩ (.slice aV nV kV)) _ _ _ _ := bS.farP (by omega) _ _
    replace bN : Bx ((u15.setCell ⟨gbR, 0, none⟩ (.bool pV)).setCell ⟨gbR, 1, none⟩ (.slice aV nV kV)) _ _ _ _ := bN.farP (by omega) _ _
    replace LS : Lg ((u15.setCell ⟨gbR, 0, none⟩ (.bool pV)).setCell ⟨gbR, 1, none⟩ (.slice aV nV kV)) _ _ := LS.put bR _ _ _ _
    replace LR : Lg ((u15.setCell ⟨gbR, 0, none⟩ (.bool pV)).setCell ⟨gbR, 1, none⟩ (.slice aV nV kV)) _ _ := LR.put bR _ _ _ _
    replace LN : Lg ((u15.setCell ⟨gbR, 0, none⟩ (.bool pV)).setCell ⟨gbR, 1, none⟩ (.slice aV nV kV)) _ _ := LN.put bR _ _ _ _
    replace LQ : Lg ((u15.setCell ⟨gbR, 0, none⟩ (.bool pV)).setCell ⟨gbR, 1, none⟩ (.slice aV nV kV)) _ _ := LQ.put bR _ _ _ _
    replace LW : Lg ((u15.setCell ⟨gbR, 0, none⟩ (.bool pV)).setCell ⟨gbR, 1, none⟩ (.slice aV nV kV)) _ _ := LW.put bR _ _ _ _
    replace LV : Lg ((u15.setCell ⟨gbR, 0, none⟩ (.bool pV)).setCell ⟨gbR, 1, none⟩ (.slice aV nV kV)) _ _ := LV.put bR _ _ _ _
    replace bR : Bx ((u15.setCell ⟨gbR, 0, none⟩ (.bool pV)).setCell ⟨gbR, 1, none⟩ (.slice aV nV kV)) _ _ _ _ := bR.putP _ _
    replace hB : Below w.heap.size w ((u15.setCell ⟨gbR, 0, none⟩ (.bool pV)).setCell ⟨gbR, 1, none⟩ (.slice aV nV kV)) := (hB.setCell gebR _).setCell gebR _
    generalize ((u15.setCell ⟨gbR, 0, none⟩ (.bool pV)).setCell ⟨gbR, 1, none⟩ (.slice aV nV kV)) = v160 at *
    go_at_call 27
    refine (same_lg _ _ y _ LV LS (by omega)).mono ?_
    rintro e u17 ⟨rfl, hb⟩
    have hk : Below v160.heap.size v160 u17 := by (repeat (first | with_reducible exact Below.refl _ _ | with_reducible assumption | refine Below.alloc ?_ (by (try simp); try omega) _ | refine Below.setCell ?_ (by (try simp); try omega) _ | refine below_drewN ?_ _ | refine Below.drew ?_ | (with_reducible refine Below.trans ?_ (Below.mono (by assumption) (by (try simp); try omega)))))
    clear hb
    replace LS := LS.keep hk
    replace LR := LR.keep hk
    replace LN := LN.keep hk
    replace LQ := LQ.keep hk
    replace LW := LW.keep hk
    replace LV := LV.keep hk
    replace bA := bA.keep hk
    replace bR := bR.keep hk
    replace bS := bS.keep hk
    replace bN := bN.keep hk
    replace hB := hB.trans (hk.mono hB.size)
    clear hk
    clear LS LR LN LQ LW LV bA bR bS bN
    go_wp2
    go_ret
    exact ⟨rfl, hB⟩
end Go.Proofs.YtoppdbgodceaiaaDoor
