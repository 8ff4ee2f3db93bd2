/-
  The walks of FixOrders and FixSquares.
-/
import Derived.Test.YtkapjdehcanppaaDoorFixX
namespace Go.Proofs.YtkapjdehcanppaaDoor
open Go.RowKit

theorem rises_true (x y : Int × Int) (w : World) (h : Rises x y) :
    Calls Tryd.prog 37 #[.int .i64 x.1, .int .i64 x.2, .int .i64 y.1, .int .i64 y.2] w fun e w' => e = .returned (.bool true) ∧ w = w' := by
  obtain ⟨p, e⟩ := x
  obtain ⟨q, f⟩ := y
  unfold Rises at h
  simp only at h ⊢
  by_cases h1 : e = 0
  · subst h1
    by_cases h2 : f = 0
    · subst h2
      have h3 : p ≤ q := h rfl rfl
      clear h
      go_enter Tryd.func37, Tryd.ntmps37
      go_wp2
      go_ret
      exact ⟨rfl, rfl⟩
    · have h4 : (f != 0) = true := by simpa using h2
      clear h h2
      go_enter Tryd.func37, Tryd.ntmps37
      go_wp2
      go_ret
      exact ⟨rfl, rfl⟩
  · have h4 : (e != 0) = true := by simpa using h1
    clear h h1
    go_enter Tryd.func37, Tryd.ntmps37
    go_wp2
    go_ret
    exact ⟨rfl, rfl⟩

set_option maxRecDepth 100000 in
set_option maxHeartbeats 4000000 in
theorem fixOrders_true (a b c N D : Int) (w : World) (hT0 : Tens w) (_N0 : -9223372036854775808 ≤ N) (_N1 : N ≤ 9223372036854775807) (D0 : -9223372036854775808 ≤ D) (D1 : D ≤ 9223372036854775807) :
    Calls Tryd.prog 8 #[.int .i64 a, .int .i64 b, .int .i64 c, .agg #[.int .i64 N, .int .i64 D]] w fun e w' => e = .returned (.bool true) ∧ Below w.heap.size w w' := by
  have hB : Since w (w.alloc (.cells #[.int .i64 N, .int .i64 D] 37)) := (Below.refl _ _).alloc (Nat.le_refl _) _
  have hN : (w.alloc (.cells #[.int .i64 N, .int .i64 D] 37)).cell? ⟨w.heap.size, 0, none⟩ = some (.int .i64 N) := by simp
  have hD : (w.alloc (.cells #[.int .i64 N, .int .i64 D] 37)).cell? ⟨w.heap.size, 1, none⟩ = some (.int .i64 D) := by simp
  have hF : (w.alloc (.cells #[.int .i64 N, .int .i64 D] 37)).frozen? ⟨w.heap.size, 0, none⟩ = false := by simp
  have hG : (w.alloc (.cells #[.int .i64 N, .int .i64 D] 37)).frozen? ⟨w.heap.size, 1, none⟩ = false := by simp
  obtain ⟨a', l0, l1, ha⟩ := near_bd a
  obtain ⟨b', k0, k1, hb'⟩ := near_bd b
  obtain ⟨c', m0, m1, hc'⟩ := near_bd c
  obtain ⟨A0, hA0⟩ : ∃ A0, max a' 0 = A0 := ⟨_, rfl⟩
  obtain ⟨B0, hB0⟩ : ∃ B0, max b' 0 = B0 := ⟨_, rfl⟩
  obtain ⟨C, hC⟩ : ∃ C, max c' 1 = C := ⟨_, rfl⟩
  obtain ⟨A, hA⟩ : ∃ A, min A0 B0 = A := ⟨_, rfl⟩
  obtain ⟨B, hBB⟩ : ∃ B, max A0 B0 = B := ⟨_, rfl⟩
  obtain ⟨N', hN'⟩ : ∃ N', max (N / 2) 0 = N' := ⟨_, rfl⟩
  obtain ⟨D', hD'⟩ : ∃ D', max (D / 2) 1 = D' := ⟨_, rfl⟩
  have a0 : 0 ≤ A := by omega
  have ab : A ≤ B := by omega
  have b1 : B ≤ 4503599627370496 := by omega
  have c0 : 1 ≤ C := by omega
  have c1 : C ≤ 4503599627370496 := by omega
  have n0 : 0 ≤ N' := by omega
  have d0 : 1 ≤ D' := by omega
  have d1 : D' ≤ 9223372036854775807 := by omega
  have r1 := fun w => rises_true _ _ w (mulR_rises false A B C ab (by omega))
  have r2 := fun w => rises_true _ _ w (divR_rises true A B C ab (by omega))
  have r3 := fun w => rises_true _ _ w (divR_falls (A + 1) (B + 1) C (by omega) (by omega) (by omega))
  have r4 := fun w => rises_true _ _ w (scaleR_rises true A B N' D' ab n0)
  have q1 := fun w => sqrtDown_any A w
  have q2 := fun w => sqrtDown_any B w
  rw [sqrtR_ok _ (by omega) (by omega)] at q1 q2
  have r5 := fun w => rises_true (isqrt (A * 4294967296), 0) (isqrt (B * 4294967296), 0) w (fun _ _ => isqrt_mono _ _ (by omega) (by omega) (by omega))
  dsimp only at q1 q2 r5
  go_enter Tryd.func8, Tryd.ntmps8
  go_wp2_with (first | (go_at_call 11; refine (works_true _ (hT0.below hB.out)).mono ?_; rintro e w1 ⟨rfl, hb⟩; replace hF := fkeep hb hN hF; replace hG := fkeep hb hD hG; replace hN := bkeep hb hN; replace hD := bkeep hb hD; replace hB := hB.step hb; clear hb) | (go_at_call 12; (first | (with_reducible refine (ha _).mono ?_) | (with_reducible refine (hb' _).mono ?_) | (with_reducible refine (hc' _).mono ?_)); rintro e w' ⟨rfl, rfl⟩) | (go_at_call 29; (with_reducible refine (mulDown_any A C _).mono ?_); rintro e w1 ⟨rfl, hb⟩; replace hB := hB.set (p := ⟨w.heap.size, 0, none⟩) (Nat.le_refl _) (.int .i64 N'); replace hD := cset_other (p := ⟨w.heap.size, 0, none⟩) (v := .int .i64 N') (by simp) hD; replace hN := cset_same (v := .int .i64 N') hN; replace hF := frozen_set (p := ⟨w.heap.size, 0, none⟩) (v := .int .i64 N') hF; replace hG := frozen_set (p := ⟨w.heap.size, 0, none⟩) (v := .int .i64 N') hG; replace hB := hB.set (p := ⟨w.heap.size, 1, none⟩) (Nat.le_refl _) (.int .i64 D'); replace hN := cset_other (p := ⟨w.heap.size, 1, none⟩) (v := .int .i64 D') (by simp) hN; replace hD := cset_same (v := .int .i64 D') hD; replace hF := frozen_set (p := ⟨w.heap.size, 1, none⟩) (v := .int .i64 D') hF; replace hG := frozen_set (p := ⟨w.heap.size, 1, none⟩) (v := .int .i64 D') hG; replace hF := fkeep hb hN hF; replace hG := fkeep hb hD hG; replace hN := bkeep hb hN; replace hD := bkeep hb hD; replace hB := hB.step hb; clear hb) | (go_at_call 29; refine (mulDown_any B C _).mono ?_; rintro e w1 ⟨rfl, hb⟩; replace hF := fkeep hb hN hF; replace hG := fkeep hb hD hG; replace hN := bkeep hb hN; replace hD := bkeep hb hD; replace hB := hB.step hb; clear hb) | (go_at_call 22; (first | (with_reducible refine (divUp_any A C _).mono ?_) | (with_reducible refine (divUp_any B C _).mono ?_)); rintro e w1 ⟨rfl, hb⟩; replace hF := fkeep hb hN hF; replace hG := fkeep hb hD hG; replace hN := bkeep hb hN; replace hD := bkeep hb hD; replace hB := hB.step hb; clear hb) | (go_at_call 21; (first | (with_reducible refine (divDown_any C (B + 1) _).mono ?_) | (with_reducible refine (divDown_any C (A + 1) _).mono ?_)); rintro e w1 ⟨rfl, hb⟩; replace hF := fkeep hb hN hF; replace hG := fkeep hb hD hG; replace hN := bkeep hb hN; replace hD := bkeep hb hD; replace hB := hB.step hb; clear hb) | (go_at_call 33; (first | (with_reducible refine (scaleUp_any A N' D' _ (by omega) d1).mono ?_) | (with_reducible refine (scaleUp_any B N' D' _ (by omega) d1).mono ?_)); rintro e w1 ⟨rfl, hb⟩; replace hF := fkeep hb hN hF; replace hG := fkeep hb hD hG; replace hN := bkeep hb hN; replace hD := bkeep hb hD; replace hB := hB.step hb; clear hb) | (go_at_call 25; (first | (with_reducible refine (q1 _).mono ?_) | (with_reducible refine (q2 _).mono ?_)); rintro e w1 ⟨rfl, hb⟩; replace hF := fkeep hb hN hF; replace hG := fkeep hb hD hG; replace hN := bkeep hb hN; replace hD := bkeep hb hD; replace hB := hB.step hb; clear hb) | (go_at_call 37; (first | (with_reducible refine (r1 _).mono ?_) | (with_reducible refine (r2 _).mono ?_) | (with_reducible refine (r3 _).mono ?_) | (with_reducible refine (r4 _).mono ?_) | (with_reducible refine (r5 _).mono ?_)); rintro e w' ⟨rfl, rfl⟩))
  go_ret
  exact ⟨rfl, hB.out⟩

end Go.Proofs.YtkapjdehcanppaaDoor
