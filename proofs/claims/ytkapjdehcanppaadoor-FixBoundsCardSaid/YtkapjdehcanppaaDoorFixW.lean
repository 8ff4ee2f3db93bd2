/-
  The walk of FixBounds.
-/
import Derived.Test.YtkapjdehcanppaaDoorFixV
namespace Go.Proofs.YtkapjdehcanppaaDoor
open Go.RowKit

theorem i64_and60 (n : Int) : bits .and .i64 n 1152921504606846975 = n % 1152921504606846976 := by
  have hc : (BitVec.ofInt 64 1152921504606846975).toNat = 2 ^ 60 - 1 := by decide
  have hk : (BitVec.ofInt 64 n &&& BitVec.ofInt 64 1152921504606846975).toNat = (n % ((2 ^ 64 : Nat) : Int)).toNat % 2 ^ 60 := by
    rw [BitVec.toNat_and, BitVec.toNat_ofInt, hc, Nat.and_two_pow_sub_one_eq_mod]
  show IntKind.i64.wrap ((BitVec.ofInt 64 n &&& BitVec.ofInt 64 1152921504606846975).toNat : Nat) = _
  rw [hk, IntKind.wrap_i64]
  omega

set_option maxRecDepth 100000 in
set_option maxHeartbeats 4000000 in
theorem fixBounds_true (a b N D : Int) (w : World) (hT0 : Tens w) (_N0 : -9223372036854775808 ≤ N) (_N1 : N ≤ 9223372036854775807) (D0 : -9223372036854775808 ≤ D) (D1 : D ≤ 9223372036854775807) :
    Calls Tryd.prog 6 #[.int .i64 a, .int .i64 b, .agg #[.int .i64 N, .int .i64 D]] w fun e w' => e = .returned (.bool true) ∧ Below w.heap.size w w' := by
  have hT : Tens (w.alloc (.cells #[.int .i64 N, .int .i64 D] 37)) := hT0.below ((Below.refl _ _).alloc (Nat.le_refl _) _)
  have hB : Since w (w.alloc (.cells #[.int .i64 N, .int .i64 D] 37)) := (Below.refl _ _).alloc (Nat.le_refl _) _
  have hN : (w.alloc (.cells #[.int .i64 N, .int .i64 D] 37)).cell? ⟨w.heap.size, 0, none⟩ = some (.int .i64 N) := by simp
  have hD : (w.alloc (.cells #[.int .i64 N, .int .i64 D] 37)).cell? ⟨w.heap.size, 1, none⟩ = some (.int .i64 D) := by simp
  obtain ⟨a', l0, l1, ha⟩ := near_bd a
  obtain ⟨b', k0, k1, hb'⟩ := near_bd b
  have hcell : True := trivial
  have m3 := fun w => mulDown_any b' a' w
  rw [mulR_comm false b' a'] at m3
  have m4 := fun w => mulDown_any a' 4294967296 w
  rw [mulR_one false a' l0 l1] at m4
  have m5 := fun w => mulUp_any 4294967296 a' w
  rw [mulR_comm true 4294967296 a', mulR_one true a' l0 l1] at m5
  have m6 := fun w => divDown_any a' 4294967296 w
  rw [divR_one false a' l0 l1] at m6
  dsimp only at m4 m5 m6
  have p1 := fun w => pair_true _ _ w (pair_mul a' b') (mulR_bd _ _ _)
  have p2 := fun w => pair_true _ _ w (pair_div a' b') (divR_bd _ _ _)
  have p3 := fun w => pair_true _ _ w (pair_scale a' N D) (scaleR_bd _ _ _ _)
  obtain ⟨sz, hsz⟩ : ∃ sz, max a' (-a') = sz := ⟨_, rfl⟩
  have s0 : 0 ≤ sz := by omega
  have s1 : sz ≤ 4503599627370496 := by omega
  have q1 := fun w => sqrtDown_any sz w
  have p4 := fun w => pair_true _ _ w (pair_sqrt sz) (sqrtR_bd _ _)
  rw [sqrtR_ok sz s0 s1] at q1 p4
  dsimp only at q1 p4
  obtain ⟨m, hm⟩ : ∃ m, bits .and .i64 (N / 4) 1152921504606846975 = m := ⟨_, rfl⟩
  have n0 : 0 ≤ m := by rw [← hm, i64_and60]; omega
  have n1 : m ≤ 1152921504606846975 := by rw [← hm, i64_and60]; omega
  have m7 := fun w => scaleUp_any a' (m + 1) (m + 1) w (by omega) (by omega)
  rw [scaleR_same true a' (m + 1) l0 l1 (by omega) (by omega)] at m7
  dsimp only at m7
  go_enter Tryd.func6, Tryd.ntmps6
  go_wp2_with (first | (go_at_call 11; refine (works_true _ hT).mono ?_; rintro e w1 ⟨rfl, hb⟩; replace hT := hT.below hb; replace hB := hB.step hb; replace hN := bkeep hb hN; replace hD := bkeep hb hD; (try replace hcell := bkeep hb hcell); clear hb) | (go_at_call 12; (first | (with_reducible refine (ha _).mono ?_) | (with_reducible refine (hb' _).mono ?_)); rintro e w' ⟨rfl, rfl⟩) | (go_at_call 29; (first | (with_reducible refine (mulDown_any a' b' _).mono ?_) | (with_reducible refine (m3 _).mono ?_) | (with_reducible refine (m4 _).mono ?_)); rintro e w1 ⟨rfl, hb⟩; replace hT := hT.below hb; replace hB := hB.step hb; replace hN := bkeep hb hN; replace hD := bkeep hb hD; (try replace hcell := bkeep hb hcell); clear hb) | (go_at_call 30; (first | (with_reducible refine (mulUp_any a' b' _).mono ?_) | (with_reducible refine (m5 _).mono ?_)); rintro e w1 ⟨rfl, hb⟩; replace hT := hT.below hb; replace hB := hB.step hb; replace hN := bkeep hb hN; replace hD := bkeep hb hD; (try replace hcell := bkeep hb hcell); clear hb) | (go_at_call 21; (first | (with_reducible refine (divDown_any a' b' _).mono ?_) | (with_reducible refine (m6 _).mono ?_)); rintro e w1 ⟨rfl, hb⟩; replace hT := hT.below hb; replace hB := hB.step hb; replace hN := bkeep hb hN; replace hD := bkeep hb hD; (try replace hcell := bkeep hb hcell); clear hb) | (go_at_call 22; refine (divUp_any a' b' _).mono ?_; rintro e w1 ⟨rfl, hb⟩; replace hT := hT.below hb; replace hB := hB.step hb; replace hN := bkeep hb hN; replace hD := bkeep hb hD; (try replace hcell := bkeep hb hcell); clear hb) | (go_at_call 32; refine (scaleDown_any a' N D _ D0 D1).mono ?_; rintro e w1 ⟨rfl, hb⟩; replace hT := hT.below hb; replace hB := hB.step hb; replace hN := bkeep hb hN; replace hD := bkeep hb hD; (try replace hcell := bkeep hb hcell); clear hb) | (go_at_call 33; (first | (with_reducible refine (scaleUp_any a' N D _ D0 D1).mono ?_) | (with_reducible refine (m7 _).mono ?_)); rintro e w1 ⟨rfl, hb⟩; replace hT := hT.below hb; replace hB := hB.step hb; replace hN := bkeep hb hN; replace hD := bkeep hb hD; (try replace hcell := bkeep hb hcell); clear hb) | (go_at_call 25; refine (q1 _).mono ?_; rintro e w1 ⟨rfl, hb⟩; replace hT := hT.below hb; replace hB := hB.step hb; replace hN := bkeep hb hN; replace hD := bkeep hb hD; (try replace hcell := bkeep hb hcell); clear hb) | (go_at_call 26; refine (sqrtUp_any sz _).mono ?_; rintro e w1 ⟨rfl, hb⟩; replace hT := hT.below hb; replace hB := hB.step hb; replace hN := bkeep hb hN; replace hD := bkeep hb hD; (try replace hcell := bkeep hb hcell); clear hb) | (go_at_call 31; (first | (with_reducible refine (p1 _).mono ?_) | (with_reducible refine (p2 _).mono ?_) | (with_reducible refine (p3 _).mono ?_) | (with_reducible refine (p4 _).mono ?_)); rintro e w' ⟨rfl, rfl⟩) | (go_at_call 34; refine (is_any _ _).mono ?_; rintro e w1 ⟨bx, rfl, hcell, hb⟩; replace hT := hT.below hb; replace hB := hB.step hb; replace hN := bkeep hb hN; replace hD := bkeep hb hD; clear hb) | (go_at_call 49; refine (is1_true _ _ _ hcell).mono ?_; rintro e w' ⟨rfl, rfl⟩))
  go_ret
  exact ⟨rfl, hB.out⟩

end Go.Proofs.YtkapjdehcanppaaDoor
