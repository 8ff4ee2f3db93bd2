/-
  The chapter's examples, the limits and the errors, as contracts of single calls.
-/
import Derived.Test.YtkapjdehcanppaaDoorFixK
namespace Go.Proofs.YtkapjdehcanppaaDoor
open Go.RowKit

theorem exAdd_1_2 (w : World) : Calls Tryd.prog 13 #[.int .i64 1, .int .i64 2] w fun e w' => e = .returned (.tuple #[.int .i64 3, .int .i64 0]) ∧ w = w' := by
  have h := add_any 1 2 w
  rw [show pairR 1 2 (1 + 2) = (3, 0) by decide +kernel] at h
  exact h
theorem exSub_m4503599627370496_1 (w : World) : Calls Tryd.prog 14 #[.int .i64 (-4503599627370496), .int .i64 1] w fun e w' => e = .returned (.tuple #[.int .i64 0, .int .i64 6]) ∧ w = w' := by
  have h := sub_any (-4503599627370496) 1 w
  rw [show pairR (-4503599627370496) 1 ((-4503599627370496) - 1) = (0, 6) by decide +kernel] at h
  exact h
theorem exNeg_4503599627370497 (w : World) : Calls Tryd.prog 15 #[.int .i64 4503599627370497] w fun e w' => e = .returned (.tuple #[.int .i64 0, .int .i64 2]) ∧ w = w' := by
  have h := neg_any 4503599627370497 w
  rw [show negR 4503599627370497 = (0, 2) by decide +kernel] at h
  exact h
theorem exMulDown_3_2147483648 (w : World) : Calls Tryd.prog 29 #[.int .i64 3, .int .i64 2147483648] w fun e w' => e = .returned (.tuple #[.int .i64 1, .int .i64 0]) ∧ Below w.heap.size w w' := by
  have h := mulDown_any 3 2147483648 w
  rw [show mulR false 3 2147483648 = (1, 0) by decide +kernel] at h
  exact h
theorem exMulUp_3_2147483648 (w : World) : Calls Tryd.prog 30 #[.int .i64 3, .int .i64 2147483648] w fun e w' => e = .returned (.tuple #[.int .i64 2, .int .i64 0]) ∧ Below w.heap.size w w' := by
  have h := mulUp_any 3 2147483648 w
  rw [show mulR true 3 2147483648 = (2, 0) by decide +kernel] at h
  exact h
theorem exMulDown_m3_2147483648 (w : World) : Calls Tryd.prog 29 #[.int .i64 (-3), .int .i64 2147483648] w fun e w' => e = .returned (.tuple #[.int .i64 (-2), .int .i64 0]) ∧ Below w.heap.size w w' := by
  have h := mulDown_any (-3) 2147483648 w
  rw [show mulR false (-3) 2147483648 = ((-2), 0) by decide +kernel] at h
  exact h
theorem exDivDown_4294967296_12884901888 (w : World) : Calls Tryd.prog 21 #[.int .i64 4294967296, .int .i64 12884901888] w fun e w' => e = .returned (.tuple #[.int .i64 1431655765, .int .i64 0]) ∧ Below w.heap.size w w' := by
  have h := divDown_any 4294967296 12884901888 w
  rw [show divR false 4294967296 12884901888 = (1431655765, 0) by decide +kernel] at h
  exact h
theorem exDivUp_4294967296_12884901888 (w : World) : Calls Tryd.prog 22 #[.int .i64 4294967296, .int .i64 12884901888] w fun e w' => e = .returned (.tuple #[.int .i64 1431655766, .int .i64 0]) ∧ Below w.heap.size w w' := by
  have h := divUp_any 4294967296 12884901888 w
  rw [show divR true 4294967296 12884901888 = (1431655766, 0) by decide +kernel] at h
  exact h
theorem exDivUp_1_0 (w : World) : Calls Tryd.prog 22 #[.int .i64 1, .int .i64 0] w fun e w' => e = .returned (.tuple #[.int .i64 0, .int .i64 7]) ∧ Below w.heap.size w w' := by
  have h := divUp_any 1 0 w
  rw [show divR true 1 0 = (0, 7) by decide +kernel] at h
  exact h
theorem exSqrtDown_8589934592 (w : World) : Calls Tryd.prog 25 #[.int .i64 8589934592] w fun e w' => e = .returned (.tuple #[.int .i64 6074000999, .int .i64 0]) ∧ Below w.heap.size w w' := by
  have h := sqrtDown_any 8589934592 w
  rw [show sqrtR false 8589934592 = (6074000999, 0) from sqrtR_down _ _ (by omega) (by omega) (by omega) (by omega) (by omega)] at h
  exact h
theorem exSqrtUp_8589934592 (w : World) : Calls Tryd.prog 26 #[.int .i64 8589934592] w fun e w' => e = .returned (.tuple #[.int .i64 6074001000, .int .i64 0]) ∧ Below w.heap.size w w' := by
  have h := sqrtUp_any 8589934592 w
  rw [show sqrtR true 8589934592 = (6074001000, 0) from sqrtR_up _ 6074000999 (by omega) (by omega) (by omega) (by omega) (by omega)] at h
  exact h
theorem exSqrtDown_17179869184 (w : World) : Calls Tryd.prog 25 #[.int .i64 17179869184] w fun e w' => e = .returned (.tuple #[.int .i64 8589934592, .int .i64 0]) ∧ Below w.heap.size w w' := by
  have h := sqrtDown_any 17179869184 w
  rw [show sqrtR false 17179869184 = (8589934592, 0) from sqrtR_down _ _ (by omega) (by omega) (by omega) (by omega) (by omega)] at h
  exact h
theorem exMulDown_4503599627370496_4503599627370496 (w : World) : Calls Tryd.prog 29 #[.int .i64 4503599627370496, .int .i64 4503599627370496] w fun e w' => e = .returned (.tuple #[.int .i64 0, .int .i64 6]) ∧ Below w.heap.size w w' := by
  have h := mulDown_any 4503599627370496 4503599627370496 w
  rw [show mulR false 4503599627370496 4503599627370496 = (0, 6) by decide +kernel] at h
  exact h
theorem exSqrtDown_m1 (w : World) : Calls Tryd.prog 25 #[.int .i64 (-1)] w fun e w' => e = .returned (.tuple #[.int .i64 0, .int .i64 2]) ∧ Below w.heap.size w w' := by
  have h := sqrtDown_any (-1) w
  rw [show sqrtR false (-1) = (0, 2) by decide +kernel] at h
  exact h
theorem exScaleDown_4294967296_m1_3 (w : World) : Calls Tryd.prog 32 #[.int .i64 4294967296, .int .i64 (-1), .int .i64 3] w fun e w' => e = .returned (.tuple #[.int .i64 (-1431655766), .int .i64 0]) ∧ Below w.heap.size w w' := by
  have h := scaleDown_any 4294967296 (-1) 3 w (by omega) (by omega)
  rw [show scaleR false 4294967296 (-1) 3 = ((-1431655766), 0) by decide +kernel] at h
  exact h
theorem exScaleUp_4294967296_m1_3 (w : World) : Calls Tryd.prog 33 #[.int .i64 4294967296, .int .i64 (-1), .int .i64 3] w fun e w' => e = .returned (.tuple #[.int .i64 (-1431655765), .int .i64 0]) ∧ Below w.heap.size w w' := by
  have h := scaleUp_any 4294967296 (-1) 3 w (by omega) (by omega)
  rw [show scaleR true 4294967296 (-1) 3 = ((-1431655765), 0) by decide +kernel] at h
  exact h
theorem exScaleUp_1_1_0 (w : World) : Calls Tryd.prog 33 #[.int .i64 1, .int .i64 1, .int .i64 0] w fun e w' => e = .returned (.tuple #[.int .i64 0, .int .i64 2]) ∧ Below w.heap.size w w' := by
  have h := scaleUp_any 1 1 0 w (by omega) (by omega)
  rw [show scaleR true 1 1 0 = (0, 2) by decide +kernel] at h
  exact h
theorem exFromDec_125_1 (w : World) (ht : Tens w) : Calls Tryd.prog 36 #[.int .i64 125, .int .i64 1] w fun e w' => e = .returned (.tuple #[.int .i64 53687091200, .int .i64 53687091200, .int .i64 0]) ∧ Below w.heap.size w w' := by
  have h := fromDec_any 125 1 w ht (by omega) (by omega)
  rw [show decR 125 1 = (53687091200, 53687091200, 0) by decide +kernel] at h
  exact h
theorem exFromDec_m1_12 (w : World) (ht : Tens w) : Calls Tryd.prog 36 #[.int .i64 (-1), .int .i64 12] w fun e w' => e = .returned (.tuple #[.int .i64 (-1), .int .i64 0, .int .i64 0]) ∧ Below w.heap.size w w' := by
  have h := fromDec_any (-1) 12 w ht (by omega) (by omega)
  rw [show decR (-1) 12 = ((-1), 0, 0) by decide +kernel] at h
  exact h
theorem exFromDec_1048576_0 (w : World) (ht : Tens w) : Calls Tryd.prog 36 #[.int .i64 1048576, .int .i64 0] w fun e w' => e = .returned (.tuple #[.int .i64 4503599627370496, .int .i64 4503599627370496, .int .i64 0]) ∧ Below w.heap.size w w' := by
  have h := fromDec_any 1048576 0 w ht (by omega) (by omega)
  rw [show decR 1048576 0 = (4503599627370496, 4503599627370496, 0) by decide +kernel] at h
  exact h
theorem exFromDec_1_13 (w : World) (ht : Tens w) : Calls Tryd.prog 36 #[.int .i64 1, .int .i64 13] w fun e w' => e = .returned (.tuple #[.int .i64 0, .int .i64 0, .int .i64 2]) ∧ Below w.heap.size w w' := by
  have h := fromDec_any 1 13 w ht (by omega) (by omega)
  rw [show decR 1 13 = (0, 0, 2) by decide +kernel] at h
  exact h
theorem exCheck_4503599627370496 (w : World) : Calls Tryd.prog 19 #[.int .i64 4503599627370496] w fun e w' => e = .returned (.int .i64 0) ∧ w = w' := by
  have h := check_any 4503599627370496 w
  rw [show ckErr 4503599627370496 = 0 by decide] at h
  exact h
theorem exCheck_m4503599627370496 (w : World) : Calls Tryd.prog 19 #[.int .i64 (-4503599627370496)] w fun e w' => e = .returned (.int .i64 0) ∧ w = w' := by
  have h := check_any (-4503599627370496) w
  rw [show ckErr (-4503599627370496) = 0 by decide] at h
  exact h
theorem exCheck_4503599627370497 (w : World) : Calls Tryd.prog 19 #[.int .i64 4503599627370497] w fun e w' => e = .returned (.int .i64 2) ∧ w = w' := by
  have h := check_any 4503599627370497 w
  rw [show ckErr 4503599627370497 = 2 by decide] at h
  exact h
theorem exCheck_m9223372036854775808 (w : World) : Calls Tryd.prog 19 #[.int .i64 (-9223372036854775808)] w fun e w' => e = .returned (.int .i64 2) ∧ w = w' := by
  have h := check_any (-9223372036854775808) w
  rw [show ckErr (-9223372036854775808) = 2 by decide] at h
  exact h
theorem exAdd_4503599627370496_1 (w : World) : Calls Tryd.prog 13 #[.int .i64 4503599627370496, .int .i64 1] w fun e w' => e = .returned (.tuple #[.int .i64 0, .int .i64 6]) ∧ w = w' := by
  have h := add_any 4503599627370496 1 w
  rw [show pairR 4503599627370496 1 (4503599627370496 + 1) = (0, 6) by decide +kernel] at h
  exact h
theorem exAdd_4503599627370496_0 (w : World) : Calls Tryd.prog 13 #[.int .i64 4503599627370496, .int .i64 0] w fun e w' => e = .returned (.tuple #[.int .i64 4503599627370496, .int .i64 0]) ∧ w = w' := by
  have h := add_any 4503599627370496 0 w
  rw [show pairR 4503599627370496 0 (4503599627370496 + 0) = (4503599627370496, 0) by decide +kernel] at h
  exact h
theorem exAdd_4503599627370496_m4503599627370496 (w : World) : Calls Tryd.prog 13 #[.int .i64 4503599627370496, .int .i64 (-4503599627370496)] w fun e w' => e = .returned (.tuple #[.int .i64 0, .int .i64 0]) ∧ w = w' := by
  have h := add_any 4503599627370496 (-4503599627370496) w
  rw [show pairR 4503599627370496 (-4503599627370496) (4503599627370496 + (-4503599627370496)) = (0, 0) by decide +kernel] at h
  exact h
theorem exAdd_4503599627370497_m1 (w : World) : Calls Tryd.prog 13 #[.int .i64 4503599627370497, .int .i64 (-1)] w fun e w' => e = .returned (.tuple #[.int .i64 0, .int .i64 2]) ∧ w = w' := by
  have h := add_any 4503599627370497 (-1) w
  rw [show pairR 4503599627370497 (-1) (4503599627370497 + (-1)) = (0, 2) by decide +kernel] at h
  exact h
theorem exSub_0_9223372036854775807 (w : World) : Calls Tryd.prog 14 #[.int .i64 0, .int .i64 9223372036854775807] w fun e w' => e = .returned (.tuple #[.int .i64 0, .int .i64 2]) ∧ w = w' := by
  have h := sub_any 0 9223372036854775807 w
  rw [show pairR 0 9223372036854775807 (0 - 9223372036854775807) = (0, 2) by decide +kernel] at h
  exact h
theorem exNeg_4503599627370496 (w : World) : Calls Tryd.prog 15 #[.int .i64 4503599627370496] w fun e w' => e = .returned (.tuple #[.int .i64 (-4503599627370496), .int .i64 0]) ∧ w = w' := by
  have h := neg_any 4503599627370496 w
  rw [show negR 4503599627370496 = ((-4503599627370496), 0) by decide +kernel] at h
  exact h
theorem exMulUp_4503599627370496_4294967296 (w : World) : Calls Tryd.prog 30 #[.int .i64 4503599627370496, .int .i64 4294967296] w fun e w' => e = .returned (.tuple #[.int .i64 4503599627370496, .int .i64 0]) ∧ Below w.heap.size w w' := by
  have h := mulUp_any 4503599627370496 4294967296 w
  rw [show mulR true 4503599627370496 4294967296 = (4503599627370496, 0) by decide +kernel] at h
  exact h
theorem exMulUp_4503599627370496_4294967297 (w : World) : Calls Tryd.prog 30 #[.int .i64 4503599627370496, .int .i64 4294967297] w fun e w' => e = .returned (.tuple #[.int .i64 0, .int .i64 6]) ∧ Below w.heap.size w w' := by
  have h := mulUp_any 4503599627370496 4294967297 w
  rw [show mulR true 4503599627370496 4294967297 = (0, 6) by decide +kernel] at h
  exact h
theorem exMulDown_0_4503599627370497 (w : World) : Calls Tryd.prog 29 #[.int .i64 0, .int .i64 4503599627370497] w fun e w' => e = .returned (.tuple #[.int .i64 0, .int .i64 2]) ∧ Below w.heap.size w w' := by
  have h := mulDown_any 0 4503599627370497 w
  rw [show mulR false 0 4503599627370497 = (0, 2) by decide +kernel] at h
  exact h
theorem exMulDown_1_1 (w : World) : Calls Tryd.prog 29 #[.int .i64 1, .int .i64 1] w fun e w' => e = .returned (.tuple #[.int .i64 0, .int .i64 0]) ∧ Below w.heap.size w w' := by
  have h := mulDown_any 1 1 w
  rw [show mulR false 1 1 = (0, 0) by decide +kernel] at h
  exact h
theorem exMulUp_1_1 (w : World) : Calls Tryd.prog 30 #[.int .i64 1, .int .i64 1] w fun e w' => e = .returned (.tuple #[.int .i64 1, .int .i64 0]) ∧ Below w.heap.size w w' := by
  have h := mulUp_any 1 1 w
  rw [show mulR true 1 1 = (1, 0) by decide +kernel] at h
  exact h
theorem exMulDown_m1_1 (w : World) : Calls Tryd.prog 29 #[.int .i64 (-1), .int .i64 1] w fun e w' => e = .returned (.tuple #[.int .i64 (-1), .int .i64 0]) ∧ Below w.heap.size w w' := by
  have h := mulDown_any (-1) 1 w
  rw [show mulR false (-1) 1 = ((-1), 0) by decide +kernel] at h
  exact h
theorem exMulUp_m1_1 (w : World) : Calls Tryd.prog 30 #[.int .i64 (-1), .int .i64 1] w fun e w' => e = .returned (.tuple #[.int .i64 0, .int .i64 0]) ∧ Below w.heap.size w w' := by
  have h := mulUp_any (-1) 1 w
  rw [show mulR true (-1) 1 = (0, 0) by decide +kernel] at h
  exact h
theorem exMulDown_m4503599627370496_4503599627370496 (w : World) : Calls Tryd.prog 29 #[.int .i64 (-4503599627370496), .int .i64 4503599627370496] w fun e w' => e = .returned (.tuple #[.int .i64 0, .int .i64 6]) ∧ Below w.heap.size w w' := by
  have h := mulDown_any (-4503599627370496) 4503599627370496 w
  rw [show mulR false (-4503599627370496) 4503599627370496 = (0, 6) by decide +kernel] at h
  exact h
theorem exDivDown_4503599627370497_0 (w : World) : Calls Tryd.prog 21 #[.int .i64 4503599627370497, .int .i64 0] w fun e w' => e = .returned (.tuple #[.int .i64 0, .int .i64 2]) ∧ Below w.heap.size w w' := by
  have h := divDown_any 4503599627370497 0 w
  rw [show divR false 4503599627370497 0 = (0, 2) by decide +kernel] at h
  exact h
theorem exDivDown_0_0 (w : World) : Calls Tryd.prog 21 #[.int .i64 0, .int .i64 0] w fun e w' => e = .returned (.tuple #[.int .i64 0, .int .i64 7]) ∧ Below w.heap.size w w' := by
  have h := divDown_any 0 0 w
  rw [show divR false 0 0 = (0, 7) by decide +kernel] at h
  exact h
theorem exDivDown_4503599627370496_1 (w : World) : Calls Tryd.prog 21 #[.int .i64 4503599627370496, .int .i64 1] w fun e w' => e = .returned (.tuple #[.int .i64 0, .int .i64 6]) ∧ Below w.heap.size w w' := by
  have h := divDown_any 4503599627370496 1 w
  rw [show divR false 4503599627370496 1 = (0, 6) by decide +kernel] at h
  exact h
theorem exDivDown_1048576_1 (w : World) : Calls Tryd.prog 21 #[.int .i64 1048576, .int .i64 1] w fun e w' => e = .returned (.tuple #[.int .i64 4503599627370496, .int .i64 0]) ∧ Below w.heap.size w w' := by
  have h := divDown_any 1048576 1 w
  rw [show divR false 1048576 1 = (4503599627370496, 0) by decide +kernel] at h
  exact h
theorem exDivUp_1048577_1 (w : World) : Calls Tryd.prog 22 #[.int .i64 1048577, .int .i64 1] w fun e w' => e = .returned (.tuple #[.int .i64 0, .int .i64 6]) ∧ Below w.heap.size w w' := by
  have h := divUp_any 1048577 1 w
  rw [show divR true 1048577 1 = (0, 6) by decide +kernel] at h
  exact h
theorem exDivUp_1_4503599627370496 (w : World) : Calls Tryd.prog 22 #[.int .i64 1, .int .i64 4503599627370496] w fun e w' => e = .returned (.tuple #[.int .i64 1, .int .i64 0]) ∧ Below w.heap.size w w' := by
  have h := divUp_any 1 4503599627370496 w
  rw [show divR true 1 4503599627370496 = (1, 0) by decide +kernel] at h
  exact h
theorem exDivDown_1_4503599627370496 (w : World) : Calls Tryd.prog 21 #[.int .i64 1, .int .i64 4503599627370496] w fun e w' => e = .returned (.tuple #[.int .i64 0, .int .i64 0]) ∧ Below w.heap.size w w' := by
  have h := divDown_any 1 4503599627370496 w
  rw [show divR false 1 4503599627370496 = (0, 0) by decide +kernel] at h
  exact h
theorem exDivDown_m1_4503599627370496 (w : World) : Calls Tryd.prog 21 #[.int .i64 (-1), .int .i64 4503599627370496] w fun e w' => e = .returned (.tuple #[.int .i64 (-1), .int .i64 0]) ∧ Below w.heap.size w w' := by
  have h := divDown_any (-1) 4503599627370496 w
  rw [show divR false (-1) 4503599627370496 = ((-1), 0) by decide +kernel] at h
  exact h
theorem exSqrtUp_4503599627370496 (w : World) : Calls Tryd.prog 26 #[.int .i64 4503599627370496] w fun e w' => e = .returned (.tuple #[.int .i64 4398046511104, .int .i64 0]) ∧ Below w.heap.size w w' := by
  have h := sqrtUp_any 4503599627370496 w
  rw [show sqrtR true 4503599627370496 = (4398046511104, 0) from sqrtR_up_exact _ _ (by omega) (by omega) (by omega) (by omega)] at h
  exact h
theorem exSqrtDown_4503599627370496 (w : World) : Calls Tryd.prog 25 #[.int .i64 4503599627370496] w fun e w' => e = .returned (.tuple #[.int .i64 4398046511104, .int .i64 0]) ∧ Below w.heap.size w w' := by
  have h := sqrtDown_any 4503599627370496 w
  rw [show sqrtR false 4503599627370496 = (4398046511104, 0) from sqrtR_down _ _ (by omega) (by omega) (by omega) (by omega) (by omega)] at h
  exact h
theorem exSqrtUp_4503599627370495 (w : World) : Calls Tryd.prog 26 #[.int .i64 4503599627370495] w fun e w' => e = .returned (.tuple #[.int .i64 4398046511104, .int .i64 0]) ∧ Below w.heap.size w w' := by
  have h := sqrtUp_any 4503599627370495 w
  rw [show sqrtR true 4503599627370495 = (4398046511104, 0) from sqrtR_up _ 4398046511103 (by omega) (by omega) (by omega) (by omega) (by omega)] at h
  exact h
theorem exSqrtDown_4503599627370495 (w : World) : Calls Tryd.prog 25 #[.int .i64 4503599627370495] w fun e w' => e = .returned (.tuple #[.int .i64 4398046511103, .int .i64 0]) ∧ Below w.heap.size w w' := by
  have h := sqrtDown_any 4503599627370495 w
  rw [show sqrtR false 4503599627370495 = (4398046511103, 0) from sqrtR_down _ _ (by omega) (by omega) (by omega) (by omega) (by omega)] at h
  exact h
theorem exSqrtUp_0 (w : World) : Calls Tryd.prog 26 #[.int .i64 0] w fun e w' => e = .returned (.tuple #[.int .i64 0, .int .i64 0]) ∧ Below w.heap.size w w' := by
  have h := sqrtUp_any 0 w
  rw [show sqrtR true 0 = (0, 0) from sqrtR_up_exact _ _ (by omega) (by omega) (by omega) (by omega)] at h
  exact h
theorem exSqrtDown_1 (w : World) : Calls Tryd.prog 25 #[.int .i64 1] w fun e w' => e = .returned (.tuple #[.int .i64 65536, .int .i64 0]) ∧ Below w.heap.size w w' := by
  have h := sqrtDown_any 1 w
  rw [show sqrtR false 1 = (65536, 0) from sqrtR_down _ _ (by omega) (by omega) (by omega) (by omega) (by omega)] at h
  exact h
theorem exSqrtUp_4503599627370497 (w : World) : Calls Tryd.prog 26 #[.int .i64 4503599627370497] w fun e w' => e = .returned (.tuple #[.int .i64 0, .int .i64 2]) ∧ Below w.heap.size w w' := by
  have h := sqrtUp_any 4503599627370497 w
  rw [show sqrtR true 4503599627370497 = (0, 2) by decide +kernel] at h
  exact h
theorem exScaleDown_4503599627370496_4611686018427387904_4611686018427387904 (w : World) : Calls Tryd.prog 32 #[.int .i64 4503599627370496, .int .i64 4611686018427387904, .int .i64 4611686018427387904] w fun e w' => e = .returned (.tuple #[.int .i64 4503599627370496, .int .i64 0]) ∧ Below w.heap.size w w' := by
  have h := scaleDown_any 4503599627370496 4611686018427387904 4611686018427387904 w (by omega) (by omega)
  rw [show scaleR false 4503599627370496 4611686018427387904 4611686018427387904 = (4503599627370496, 0) by decide +kernel] at h
  exact h
theorem exScaleUp_1_1_4611686018427387904 (w : World) : Calls Tryd.prog 33 #[.int .i64 1, .int .i64 1, .int .i64 4611686018427387904] w fun e w' => e = .returned (.tuple #[.int .i64 1, .int .i64 0]) ∧ Below w.heap.size w w' := by
  have h := scaleUp_any 1 1 4611686018427387904 w (by omega) (by omega)
  rw [show scaleR true 1 1 4611686018427387904 = (1, 0) by decide +kernel] at h
  exact h
theorem exScaleDown_1_4611686018427387905_1 (w : World) : Calls Tryd.prog 32 #[.int .i64 1, .int .i64 4611686018427387905, .int .i64 1] w fun e w' => e = .returned (.tuple #[.int .i64 0, .int .i64 2]) ∧ Below w.heap.size w w' := by
  have h := scaleDown_any 1 4611686018427387905 1 w (by omega) (by omega)
  rw [show scaleR false 1 4611686018427387905 1 = (0, 2) by decide +kernel] at h
  exact h
theorem exScaleDown_1_1_4611686018427387905 (w : World) : Calls Tryd.prog 32 #[.int .i64 1, .int .i64 1, .int .i64 4611686018427387905] w fun e w' => e = .returned (.tuple #[.int .i64 0, .int .i64 2]) ∧ Below w.heap.size w w' := by
  have h := scaleDown_any 1 1 4611686018427387905 w (by omega) (by omega)
  rw [show scaleR false 1 1 4611686018427387905 = (0, 2) by decide +kernel] at h
  exact h
theorem exScaleDown_1_4611686018427387904_1 (w : World) : Calls Tryd.prog 32 #[.int .i64 1, .int .i64 4611686018427387904, .int .i64 1] w fun e w' => e = .returned (.tuple #[.int .i64 0, .int .i64 6]) ∧ Below w.heap.size w w' := by
  have h := scaleDown_any 1 4611686018427387904 1 w (by omega) (by omega)
  rw [show scaleR false 1 4611686018427387904 1 = (0, 6) by decide +kernel] at h
  exact h
theorem exScaleDown_m1_4611686018427387904_1024 (w : World) : Calls Tryd.prog 32 #[.int .i64 (-1), .int .i64 4611686018427387904, .int .i64 1024] w fun e w' => e = .returned (.tuple #[.int .i64 (-4503599627370496), .int .i64 0]) ∧ Below w.heap.size w w' := by
  have h := scaleDown_any (-1) 4611686018427387904 1024 w (by omega) (by omega)
  rw [show scaleR false (-1) 4611686018427387904 1024 = ((-4503599627370496), 0) by decide +kernel] at h
  exact h
theorem exScaleDown_4503599627370497_0_1 (w : World) : Calls Tryd.prog 32 #[.int .i64 4503599627370497, .int .i64 0, .int .i64 1] w fun e w' => e = .returned (.tuple #[.int .i64 0, .int .i64 2]) ∧ Below w.heap.size w w' := by
  have h := scaleDown_any 4503599627370497 0 1 w (by omega) (by omega)
  rw [show scaleR false 4503599627370497 0 1 = (0, 2) by decide +kernel] at h
  exact h
theorem exFromDec_1048577_0 (w : World) (ht : Tens w) : Calls Tryd.prog 36 #[.int .i64 1048577, .int .i64 0] w fun e w' => e = .returned (.tuple #[.int .i64 0, .int .i64 0, .int .i64 6]) ∧ Below w.heap.size w w' := by
  have h := fromDec_any 1048577 0 w ht (by omega) (by omega)
  rw [show decR 1048577 0 = (0, 0, 6) by decide +kernel] at h
  exact h
theorem exFromDec_m9223372036854775808_12 (w : World) (ht : Tens w) : Calls Tryd.prog 36 #[.int .i64 (-9223372036854775808), .int .i64 12] w fun e w' => e = .returned (.tuple #[.int .i64 0, .int .i64 0, .int .i64 6]) ∧ Below w.heap.size w w' := by
  have h := fromDec_any (-9223372036854775808) 12 w ht (by omega) (by omega)
  rw [show decR (-9223372036854775808) 12 = (0, 0, 6) by decide +kernel] at h
  exact h
theorem exFromDec_1048575999999999999_12 (w : World) (ht : Tens w) : Calls Tryd.prog 36 #[.int .i64 1048575999999999999, .int .i64 12] w fun e w' => e = .returned (.tuple #[.int .i64 4503599627370495, .int .i64 4503599627370496, .int .i64 0]) ∧ Below w.heap.size w w' := by
  have h := fromDec_any 1048575999999999999 12 w ht (by omega) (by omega)
  rw [show decR 1048575999999999999 12 = (4503599627370495, 4503599627370496, 0) by decide +kernel] at h
  exact h
theorem exFromDec_0_m1 (w : World) (ht : Tens w) : Calls Tryd.prog 36 #[.int .i64 0, .int .i64 (-1)] w fun e w' => e = .returned (.tuple #[.int .i64 0, .int .i64 0, .int .i64 2]) ∧ Below w.heap.size w w' := by
  have h := fromDec_any 0 (-1) w ht (by omega) (by omega)
  rw [show decR 0 (-1) = (0, 0, 2) by decide +kernel] at h
  exact h
theorem exFromDec_1048576000000000001_12 (w : World) (ht : Tens w) : Calls Tryd.prog 36 #[.int .i64 1048576000000000001, .int .i64 12] w fun e w' => e = .returned (.tuple #[.int .i64 0, .int .i64 0, .int .i64 6]) ∧ Below w.heap.size w w' := by
  have h := fromDec_any 1048576000000000001 12 w ht (by omega) (by omega)
  rw [show decR 1048576000000000001 12 = (0, 0, 6) by decide +kernel] at h
  exact h

end Go.Proofs.YtkapjdehcanppaaDoor
