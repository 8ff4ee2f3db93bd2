/-
  The walk of FixSquares.
-/
import Derived.Test.YtkapjdehcanppaaDoorFixX
namespace Go.Proofs.YtkapjdehcanppaaDoor
open Go.RowKit

theorem sq_down (A R : Int) (hA : 0 ≤ A) (hA1 : A ≤ 4503599627370496) (r0 : 0 ≤ R) (r1 : R ≤ 8796093022207) (h : R * R ≤ A * 4294967296) : ∃ L, mulR false R R = (L, 0) ∧ L ≤ A := by
  have e0 : 0 ≤ R * R := Int.mul_nonneg r0 r0
  have e1 : rq false (R * R) 4294967296 = R * R / 4294967296 := by simp [rq]
  refine ⟨R * R / 4294967296, ?_, by omega⟩
  unfold mulR
  rw [if_pos (ck2_ok (by omega) (by omega) (by omega) (by omega)), e1, lim_ok (by omega) (by omega)]
theorem sq_up (A R : Int) (r0 : 0 ≤ R) (r1 : R ≤ 8796093022207) (h : A * 4294967296 < (R + 1) * (R + 1)) : ∃ H, mulR true (R + 1) (R + 1) = lim H ∧ A < H := by
  refine ⟨rq true ((R + 1) * (R + 1)) 4294967296, ?_, ?_⟩
  · unfold mulR
    rw [if_pos (ck2_ok (by omega) (by omega) (by omega) (by omega))]
  · unfold rq
    simp only [if_true]
    generalize (R + 1) * (R + 1) = z at *
    omega
theorem quot_back (A B : Int) (hA : 0 ≤ A) (hA1 : A ≤ 4503599627370496) (hB : 1 ≤ B) (hB1 : B ≤ 4503599627370496) :
    (∃ p q, divR false A B = (p, 0) ∧ divR true A B = (q, 0) ∧ (∃ L, mulR false p B = (L, 0) ∧ L ≤ A) ∧ ∃ H, mulR true q B = lim H ∧ A ≤ H) ∨ (divR false A B).2 ≠ 0 ∨ (divR true A B).2 ≠ 0 := by
  rw [divR_pos _ _ _ (by omega), divR_pos _ _ _ (by omega), if_pos (ck2_ok (by omega) (by omega) (by omega) (by omega))]
  rw [if_pos (ck2_ok (by omega) (by omega) (by omega) (by omega))]
  have m1 := Int.ediv_mul_le (A * 4294967296) (show B ≠ 0 by omega)
  have m0 : 0 ≤ A * 4294967296 / B := Int.ediv_nonneg (by omega) (by omega)
  have f1 : rq false (A * 4294967296) B = A * 4294967296 / B := by simp [rq]
  have f2 : rq true (A * 4294967296) B = -(-(A * 4294967296) / B) := by simp [rq]
  have m2 := Int.ediv_mul_le (-(A * 4294967296)) (show B ≠ 0 by omega)
  have hu := rq_up (A * 4294967296) B (by omega)
  rw [← f1] at m1 m0
  have m3 : A * 4294967296 ≤ rq true (A * 4294967296) B * B := by rw [f2, Int.neg_mul]; omega
  generalize rq false (A * 4294967296) B = p at *
  generalize rq true (A * 4294967296) B = q at *
  rcases lim_cases p with ⟨e, p0, p1⟩ | ⟨e, -⟩
  · rcases lim_cases q with ⟨g, q0, q1⟩ | ⟨g, -⟩
    · left
      rw [e, g]
      have pb0 : 0 ≤ p * B := Int.mul_nonneg m0 (by omega)
      refine ⟨p, q, rfl, rfl, ⟨p * B / 4294967296, ?_, by omega⟩, rq true (q * B) 4294967296, ?_, ?_⟩
      · unfold mulR
        have : rq false (p * B) 4294967296 = p * B / 4294967296 := by simp [rq]
        rw [if_pos (ck2_ok (by omega) (by omega) (by omega) (by omega)), this, lim_ok (by omega) (by omega)]
      · unfold mulR
        rw [if_pos (ck2_ok (by omega) (by omega) (by omega) (by omega))]
      · unfold rq
        simp only [if_true]
        generalize q * B = z at *
        omega
    · right; right; rw [g]; simp
  · right; left; rw [e]; simp

set_option maxRecDepth 100000 in
set_option maxHeartbeats 4000000 in
theorem fixSquares_true (a b : Int) (w : World) (hT0 : Tens w) :
    Calls Tryd.prog 9 #[.int .i64 a, .int .i64 b] w fun e w' => e = .returned (.bool true) ∧ Below w.heap.size w w' := by
  have hB : Since w w := Since.refl w
  obtain ⟨a', l0, l1, ha⟩ := near_bd a
  obtain ⟨b', k0, k1, hb'⟩ := near_bd b
  obtain ⟨A, hA⟩ : ∃ A, max a' 0 = A := ⟨_, rfl⟩
  obtain ⟨B, hBB⟩ : ∃ B, max b' 1 = B := ⟨_, rfl⟩
  have a0 : 0 ≤ A := by omega
  have a1 : A ≤ 4503599627370496 := by omega
  have b0 : 1 ≤ B := by omega
  have b1 : B ≤ 4503599627370496 := by omega
  have q1 := fun w => sqrtDown_any A w
  rw [sqrtR_ok _ (by omega) (by omega)] at q1
  obtain ⟨i0, i1, i2, i3⟩ := isqrt_spec (A * 4294967296) (by omega) (by omega)
  dsimp only at q1
  generalize isqrt (A * 4294967296) = R at *
  obtain ⟨L, hL, hL1⟩ := sq_down A R a0 a1 i0 i3 i1
  obtain ⟨H, hH, hH1⟩ := sq_up A R i0 i3 i2
  have c1 := fun w => mulDown_any R R w
  have c2 := fun w => mulUp_any (R + 1) (R + 1) w
  rw [hL] at c1
  rw [hH] at c2
  have hq := quot_back A B a0 a1 b0 b1
  clear i1 i2 hL hH
  have c3 := fun w => divDown_any A B w
  have c4 := fun w => divUp_any A B w
  rcases lim_cases H with ⟨eH, -⟩ | ⟨eH, -⟩
  all_goals
    rw [eH] at c2
    dsimp only at c1 c2
    clear eH
    rcases hq with ⟨p, q, hp, hq, ⟨L2, hL2, hL3⟩, H2, hH2, hH3⟩ | hq | hq
    · rw [hp] at c3
      rw [hq] at c4
      have c5 := fun w => mulDown_any p B w
      have c6 := fun w => mulUp_any q B w
      rw [hL2] at c5
      rw [hH2] at c6
      clear hp hq hL2 hH2
      rcases lim_cases H2 with ⟨eH, -⟩ | ⟨eH, -⟩
      all_goals
        rw [eH] at c6
        dsimp only at c3 c4 c5 c6
        clear eH
        go_enter Tryd.func9, Tryd.ntmps9
        go_wp2_with (first | (go_at_call 11; refine (works_true _ (hT0.below hB.out)).mono ?_; rintro e w1 ⟨rfl, hb⟩; replace hB := hB.step hb; clear hb) | (go_at_call 12; (first | (with_reducible refine (ha _).mono ?_) | (with_reducible refine (hb' _).mono ?_)); rintro e w' ⟨rfl, rfl⟩) | (go_at_call 25; refine (q1 _).mono ?_; rintro e w1 ⟨rfl, hb⟩; replace hB := hB.step hb; clear hb) | (go_at_call 29; (first | (with_reducible refine (c1 _).mono ?_) | (with_reducible refine (c5 _).mono ?_)); rintro e w1 ⟨rfl, hb⟩; replace hB := hB.step hb; clear hb) | (go_at_call 30; (first | (with_reducible refine (c2 _).mono ?_) | (with_reducible refine (c6 _).mono ?_)); rintro e w1 ⟨rfl, hb⟩; replace hB := hB.step hb; clear hb) | (go_at_call 21; refine (c3 _).mono ?_; rintro e w1 ⟨rfl, hb⟩; replace hB := hB.step hb; clear hb) | (go_at_call 22; refine (c4 _).mono ?_; rintro e w1 ⟨rfl, hb⟩; replace hB := hB.step hb; clear hb))
        go_ret
        exact ⟨rfl, hB.out⟩
    · have h4 : ((divR false A B).2 != 0) = true := by simpa using hq
      clear hq
      go_enter Tryd.func9, Tryd.ntmps9
      go_wp2_with (first | (go_at_call 11; refine (works_true _ (hT0.below hB.out)).mono ?_; rintro e w1 ⟨rfl, hb⟩; replace hB := hB.step hb; clear hb) | (go_at_call 12; (first | (with_reducible refine (ha _).mono ?_) | (with_reducible refine (hb' _).mono ?_)); rintro e w' ⟨rfl, rfl⟩) | (go_at_call 25; refine (q1 _).mono ?_; rintro e w1 ⟨rfl, hb⟩; replace hB := hB.step hb; clear hb) | (go_at_call 29; refine (c1 _).mono ?_; rintro e w1 ⟨rfl, hb⟩; replace hB := hB.step hb; clear hb) | (go_at_call 30; refine (c2 _).mono ?_; rintro e w1 ⟨rfl, hb⟩; replace hB := hB.step hb; clear hb) | (go_at_call 21; refine (c3 _).mono ?_; rintro e w1 ⟨rfl, hb⟩; replace hB := hB.step hb; clear hb) | (go_at_call 22; refine (c4 _).mono ?_; rintro e w1 ⟨rfl, hb⟩; replace hB := hB.step hb; clear hb))
      go_ret
      exact ⟨rfl, hB.out⟩
    · by_cases h5 : (divR false A B).2 = 0
      · have h4 : ((divR true A B).2 != 0) = true := by simpa using hq
        have h6 : ((divR false A B).2 != 0) = false := by simp [h5]
        clear hq h5
        go_enter Tryd.func9, Tryd.ntmps9
        go_wp2_with (first | (go_at_call 11; refine (works_true _ (hT0.below hB.out)).mono ?_; rintro e w1 ⟨rfl, hb⟩; replace hB := hB.step hb; clear hb) | (go_at_call 12; (first | (with_reducible refine (ha _).mono ?_) | (with_reducible refine (hb' _).mono ?_)); rintro e w' ⟨rfl, rfl⟩) | (go_at_call 25; refine (q1 _).mono ?_; rintro e w1 ⟨rfl, hb⟩; replace hB := hB.step hb; clear hb) | (go_at_call 29; refine (c1 _).mono ?_; rintro e w1 ⟨rfl, hb⟩; replace hB := hB.step hb; clear hb) | (go_at_call 30; refine (c2 _).mono ?_; rintro e w1 ⟨rfl, hb⟩; replace hB := hB.step hb; clear hb) | (go_at_call 21; refine (c3 _).mono ?_; rintro e w1 ⟨rfl, hb⟩; replace hB := hB.step hb; clear hb) | (go_at_call 22; refine (c4 _).mono ?_; rintro e w1 ⟨rfl, hb⟩; replace hB := hB.step hb; clear hb))
        go_ret
        exact ⟨rfl, hB.out⟩
      · have h4 : ((divR false A B).2 != 0) = true := by simpa using h5
        clear hq h5
        go_enter Tryd.func9, Tryd.ntmps9
        go_wp2_with (first | (go_at_call 11; refine (works_true _ (hT0.below hB.out)).mono ?_; rintro e w1 ⟨rfl, hb⟩; replace hB := hB.step hb; clear hb) | (go_at_call 12; (first | (with_reducible refine (ha _).mono ?_) | (with_reducible refine (hb' _).mono ?_)); rintro e w' ⟨rfl, rfl⟩) | (go_at_call 25; refine (q1 _).mono ?_; rintro e w1 ⟨rfl, hb⟩; replace hB := hB.step hb; clear hb) | (go_at_call 29; refine (c1 _).mono ?_; rintro e w1 ⟨rfl, hb⟩; replace hB := hB.step hb; clear hb) | (go_at_call 30; refine (c2 _).mono ?_; rintro e w1 ⟨rfl, hb⟩; replace hB := hB.step hb; clear hb) | (go_at_call 21; refine (c3 _).mono ?_; rintro e w1 ⟨rfl, hb⟩; replace hB := hB.step hb; clear hb) | (go_at_call 22; refine (c4 _).mono ?_; rintro e w1 ⟨rfl, hb⟩; replace hB := hB.step hb; clear hb))
        go_ret
        exact ⟨rfl, hB.out⟩

end Go.Proofs.YtkapjdehcanppaaDoor
