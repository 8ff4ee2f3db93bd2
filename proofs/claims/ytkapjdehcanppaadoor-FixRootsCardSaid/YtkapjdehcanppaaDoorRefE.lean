/-
  The walk of FixRoots.
-/
import Derived.Test.YtkapjdehcanppaaDoorFixM
import Derived.Test.YtkapjdehcanppaaDoorRefD
namespace Go.Proofs.YtkapjdehcanppaaDoor
open Go.RowKit

set_option maxRecDepth 100000 in
set_option maxHeartbeats 4000000 in
theorem fixRoots_true (a r : Int) (raw : Bool) (w : World) (hT0 : Tens w) (r0 : 0 ≤ r) (r1 : r ≤ 4294967295) :
    Calls Tryd.prog 5 #[.int .i64 a, .bool raw, .int .u32 r] w fun e w' => e = .returned (.bool true) ∧ Below w.heap.size w w' := by
  have hB : Since w w := Since.refl w
  obtain ⟨a', ha⟩ : ∃ a', ∀ w, Calls Tryd.prog 12 #[.int .i64 a, .bool raw] w fun r w' => r = .returned (.int .i64 a') ∧ w = w' := by
    cases raw
    · exact ⟨_, fun w => near_mod a w⟩
    · exact ⟨_, fun w => near_raw a w⟩
  have x0 : ∀ (u0 u1 u2 u3 u4 : Int) (w : World), (Instr.index 34 (.agg #[.int .i64 u0, .int .i64 u1, .int .i64 u2, .int .i64 u3, .int .i64 u4]) (.int .i64 0)).run Tryd.prog w = .ok (.int .i64 u0) w := fun _ _ _ _ _ _ => by kernel_rfl
  have x1 : ∀ (u0 u1 u2 u3 u4 : Int) (w : World), (Instr.index 34 (.agg #[.int .i64 u0, .int .i64 u1, .int .i64 u2, .int .i64 u3, .int .i64 u4]) (.int .i64 1)).run Tryd.prog w = .ok (.int .i64 u1) w := fun _ _ _ _ _ _ => by kernel_rfl
  have x2 : ∀ (u0 u1 u2 u3 u4 : Int) (w : World), (Instr.index 34 (.agg #[.int .i64 u0, .int .i64 u1, .int .i64 u2, .int .i64 u3, .int .i64 u4]) (.int .i64 2)).run Tryd.prog w = .ok (.int .i64 u2) w := fun _ _ _ _ _ _ => by kernel_rfl
  have x3 : ∀ (u0 u1 u2 u3 u4 : Int) (w : World), (Instr.index 34 (.agg #[.int .i64 u0, .int .i64 u1, .int .i64 u2, .int .i64 u3, .int .i64 u4]) (.int .i64 3)).run Tryd.prog w = .ok (.int .i64 u3) w := fun _ _ _ _ _ _ => by kernel_rfl
  have x4 : ∀ (u0 u1 u2 u3 u4 : Int) (w : World), (Instr.index 34 (.agg #[.int .i64 u0, .int .i64 u1, .int .i64 u2, .int .i64 u3, .int .i64 u4]) (.int .i64 4)).run Tryd.prog w = .ok (.int .i64 u4) w := fun _ _ _ _ _ _ => by kernel_rfl
  go_enter Tryd.func5, Tryd.ntmps5
  go_wp2_with (first | (go_at_call 11; refine (works_true _ (hT0.below hB.out)).mono ?_; rintro e w1 ⟨rfl, hb⟩; replace hB := hB.step hb; clear hb) | (go_at_call 12; (first | (with_reducible refine (ha _).mono ?_)); rintro e w' ⟨rfl, rfl⟩))
  go_loopw [39] (fun vi wr => ∃ k : Int, (k = 0 ∨ k = 1 ∨ k = 2 ∨ k = 3 ∨ k = 4 ∨ k = 5) ∧ vi = .int .i64 k ∧ Since w wr) (fun vi _ => 5 - (intOf vi).toNat)
  case atStart => exact ⟨0, by omega, rfl, hB⟩
  case round =>
    clear hB
    obtain ⟨k, hk, rfl, hB⟩ := hrel
    obtain rfl | rfl | rfl | rfl | rfl | rfl := hk
    · go_wp2_with (first | (go_at_call 25; refine (sqrtDown_any _ _).mono ?_; rintro e w1 ⟨rfl, hb⟩; replace hB := hB.step hb; clear hb) | (go_at_call 26; refine (sqrtUp_any _ _).mono ?_; rintro e w1 ⟨rfl, hb⟩; replace hB := hB.step hb; clear hb) | (go_at_call 27; refine (refSqrtDown_any _ _).mono ?_; rintro e w' ⟨rfl, rfl⟩) | (go_at_call 28; refine (refSqrtUp_any _ _).mono ?_; rintro e w' ⟨rfl, rfl⟩))
      go_roundw
      case rel => exact ⟨1, by omega, rfl, hB⟩
      case measure => simp [intOf]
    · go_wp2_with (first | (go_at_call 25; refine (sqrtDown_any _ _).mono ?_; rintro e w1 ⟨rfl, hb⟩; replace hB := hB.step hb; clear hb) | (go_at_call 26; refine (sqrtUp_any _ _).mono ?_; rintro e w1 ⟨rfl, hb⟩; replace hB := hB.step hb; clear hb) | (go_at_call 27; refine (refSqrtDown_any _ _).mono ?_; rintro e w' ⟨rfl, rfl⟩) | (go_at_call 28; refine (refSqrtUp_any _ _).mono ?_; rintro e w' ⟨rfl, rfl⟩))
      go_roundw
      case rel => exact ⟨2, by omega, rfl, hB⟩
      case measure => simp [intOf]
    · go_wp2_with (first | (go_at_call 25; refine (sqrtDown_any _ _).mono ?_; rintro e w1 ⟨rfl, hb⟩; replace hB := hB.step hb; clear hb) | (go_at_call 26; refine (sqrtUp_any _ _).mono ?_; rintro e w1 ⟨rfl, hb⟩; replace hB := hB.step hb; clear hb) | (go_at_call 27; refine (refSqrtDown_any _ _).mono ?_; rintro e w' ⟨rfl, rfl⟩) | (go_at_call 28; refine (refSqrtUp_any _ _).mono ?_; rintro e w' ⟨rfl, rfl⟩))
      go_roundw
      case rel => exact ⟨3, by omega, rfl, hB⟩
      case measure => simp [intOf]
    · go_wp2_with (first | (go_at_call 25; refine (sqrtDown_any _ _).mono ?_; rintro e w1 ⟨rfl, hb⟩; replace hB := hB.step hb; clear hb) | (go_at_call 26; refine (sqrtUp_any _ _).mono ?_; rintro e w1 ⟨rfl, hb⟩; replace hB := hB.step hb; clear hb) | (go_at_call 27; refine (refSqrtDown_any _ _).mono ?_; rintro e w' ⟨rfl, rfl⟩) | (go_at_call 28; refine (refSqrtUp_any _ _).mono ?_; rintro e w' ⟨rfl, rfl⟩))
      go_roundw
      case rel => exact ⟨4, by omega, rfl, hB⟩
      case measure => simp [intOf]
    · go_wp2_with (first | (go_at_call 25; refine (sqrtDown_any _ _).mono ?_; rintro e w1 ⟨rfl, hb⟩; replace hB := hB.step hb; clear hb) | (go_at_call 26; refine (sqrtUp_any _ _).mono ?_; rintro e w1 ⟨rfl, hb⟩; replace hB := hB.step hb; clear hb) | (go_at_call 27; refine (refSqrtDown_any _ _).mono ?_; rintro e w' ⟨rfl, rfl⟩) | (go_at_call 28; refine (refSqrtUp_any _ _).mono ?_; rintro e w' ⟨rfl, rfl⟩))
      go_roundw
      case rel => exact ⟨5, by omega, rfl, hB⟩
      case measure => simp [intOf]
    · go_wp2
      go_ret
      exact ⟨rfl, hB.out⟩

end Go.Proofs.YtkapjdehcanppaaDoor
