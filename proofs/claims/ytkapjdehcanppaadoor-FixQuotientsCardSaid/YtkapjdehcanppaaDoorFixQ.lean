/-
  The plain functions of the reference for layer 1: Right, told, Check, Add, Sub, Neg.
-/
import Derived.Test.YtkapjdehcanppaaDoorFixJ
namespace Go.Proofs.YtkapjdehcanppaaDoor
open Go.RowKit

theorem right_ok (a : Int) (w : World) (h0 : -4503599627370496 ≤ a) (h1 : a ≤ 4503599627370496) :
    Calls Tryd.prog 41 #[.int .i64 a] w fun e w' => e = .returned (.bool true) ∧ w = w' := by
  go_enter Tryd.func41, Tryd.ntmps41
  go_wp2
  go_ret
  exact ⟨rfl, rfl⟩
theorem right_no (a : Int) (w : World) (h0 : a < -4503599627370496 ∨ 4503599627370496 < a) :
    Calls Tryd.prog 41 #[.int .i64 a] w fun e w' => e = .returned (.bool false) ∧ w = w' := by
  rcases h0 with h0 | h0
  · go_enter Tryd.func41, Tryd.ntmps41
    go_wp2
    go_ret
    exact ⟨rfl, rfl⟩
  · have hd : decide (a ≤ 4503599627370496) = false := decide_eq_false (by omega)
    go_enter Tryd.func41, Tryd.ntmps41
    go_wp2
    go_ret
    exact ⟨rfl, rfl⟩
theorem told_true (a : Int) (w : World) :
    Calls Tryd.prog 42 #[.int .i64 a, .bool true] w fun e w' => e = .returned (.tuple #[.int .i64 (lim a).1, .int .i64 (lim a).2]) ∧ w = w' := by
  rcases lim_cases a with ⟨h, h0, h1⟩ | ⟨h, h0⟩
  · rw [h]
    go_enter Tryd.func42, Tryd.ntmps42
    go_wp2_with (go_at_call 41; refine (right_ok a _ h0 h1).mono ?_; rintro e w' ⟨rfl, rfl⟩)
    go_ret2
    exact ⟨rfl, rfl⟩
  · rw [h]
    have hc := fun w => right_no a w h0
    clear h0
    go_enter Tryd.func42, Tryd.ntmps42
    go_wp2_with (go_at_call 41; refine (hc _).mono ?_; rintro e w' ⟨rfl, rfl⟩)
    go_ret2
    exact ⟨rfl, rfl⟩
theorem told_false (a : Int) (w : World) :
    Calls Tryd.prog 42 #[.int .i64 a, .bool false] w fun e w' => e = .returned (.tuple #[.int .i64 0, .int .i64 6]) ∧ w = w' := by
  go_enter Tryd.func42, Tryd.ntmps42
  go_wp2
  go_ret2
  exact ⟨rfl, rfl⟩
theorem right_any (a : Int) : (ckErr a = 0 ∧ -4503599627370496 ≤ a ∧ a ≤ 4503599627370496 ∧ ∀ w, Calls Tryd.prog 41 #[.int .i64 a] w fun e w' => e = .returned (.bool true) ∧ w = w') ∨
    (ckErr a = 2 ∧ (a < -4503599627370496 ∨ 4503599627370496 < a) ∧ ∀ w, Calls Tryd.prog 41 #[.int .i64 a] w fun e w' => e = .returned (.bool false) ∧ w = w') := by
  rcases ckErr_cases a with ⟨h, h0, h1⟩ | ⟨h, h0⟩
  · exact Or.inl ⟨h, h0, h1, fun w => right_ok a w h0 h1⟩
  · exact Or.inr ⟨h, h0, fun w => right_no a w h0⟩
theorem refCheck_any (a : Int) (w : World) :
    Calls Tryd.prog 20 #[.int .i64 a] w fun e w' => e = .returned (.int .i64 (ckErr a)) ∧ w = w' := by
  rcases right_any a with ⟨h, -, -, hc⟩ | ⟨h, -, hc⟩
  · rw [h]; clear h
    go_enter Tryd.func20, Tryd.ntmps20
    go_wp2_with (go_at_call 41; refine (hc _).mono ?_; rintro e w' ⟨rfl, rfl⟩)
    go_ret
    exact ⟨rfl, rfl⟩
  · rw [h]; clear h
    go_enter Tryd.func20, Tryd.ntmps20
    go_wp2_with (go_at_call 41; refine (hc _).mono ?_; rintro e w' ⟨rfl, rfl⟩)
    go_ret
    exact ⟨rfl, rfl⟩
theorem refNeg_any (a : Int) (w : World) :
    Calls Tryd.prog 18 #[.int .i64 a] w fun e w' => e = .returned (.tuple #[.int .i64 (negR a).1, .int .i64 (negR a).2]) ∧ w = w' := by
  rcases right_any a with ⟨h, h0, h1, hc⟩ | ⟨h, -, hc⟩
  · rw [show negR a = (-a, 0) by unfold negR; rw [if_pos h]]; clear h
    go_enter Tryd.func18, Tryd.ntmps18
    go_wp2_with (go_at_call 41; refine (hc _).mono ?_; rintro e w' ⟨rfl, rfl⟩)
    go_ret2
    exact ⟨rfl, rfl⟩
  · rw [show negR a = (0, 2) by unfold negR; rw [if_neg (by omega)]]; clear h
    go_enter Tryd.func18, Tryd.ntmps18
    go_wp2_with (go_at_call 41; refine (hc _).mono ?_; rintro e w' ⟨rfl, rfl⟩)
    go_ret2
    exact ⟨rfl, rfl⟩
theorem refAdd_any (a b : Int) (w : World) :
    Calls Tryd.prog 16 #[.int .i64 a, .int .i64 b] w fun e w' => e = .returned (.tuple #[.int .i64 (pairR a b (a + b)).1, .int .i64 (pairR a b (a + b)).2]) ∧ w = w' := by
  rcases right_any a with ⟨h, h0, h1, hc⟩ | ⟨h, -, hc⟩
  · rcases right_any b with ⟨k, k0, k1, kc⟩ | ⟨k, -, kc⟩
    · rw [show pairR a b (a + b) = lim (a + b) by unfold pairR ck2; rw [if_pos (by rw [if_pos h]; exact k)]]; clear h k
      go_enter Tryd.func16, Tryd.ntmps16
      go_wp2_with (first | (go_at_call 41; (first | (with_reducible refine (hc _).mono ?_) | (with_reducible refine (kc _).mono ?_)); rintro e w' ⟨rfl, rfl⟩) | (go_at_call 42; refine (told_true (a + b) _).mono ?_; rintro e w' ⟨rfl, rfl⟩))
      go_ret2
      exact ⟨rfl, rfl⟩
    · rw [show pairR a b (a + b) = (0, 2) by unfold pairR ck2; rw [if_neg (by rw [if_pos h]; omega)]]; clear h k
      go_enter Tryd.func16, Tryd.ntmps16
      go_wp2_with (first | (go_at_call 41; (first | (with_reducible refine (hc _).mono ?_) | (with_reducible refine (kc _).mono ?_)); rintro e w' ⟨rfl, rfl⟩))
      go_ret2
      exact ⟨rfl, rfl⟩
  · rw [show pairR a b (a + b) = (0, 2) by unfold pairR ck2; rw [if_neg (by rw [if_neg (by omega)]; omega)]]; clear h
    go_enter Tryd.func16, Tryd.ntmps16
    go_wp2_with (first | (go_at_call 41; refine (hc _).mono ?_; rintro e w' ⟨rfl, rfl⟩))
    go_ret2
    exact ⟨rfl, rfl⟩
theorem refSub_any (a b : Int) (w : World) :
    Calls Tryd.prog 17 #[.int .i64 a, .int .i64 b] w fun e w' => e = .returned (.tuple #[.int .i64 (pairR a b (a - b)).1, .int .i64 (pairR a b (a - b)).2]) ∧ w = w' := by
  rcases right_any a with ⟨h, h0, h1, hc⟩ | ⟨h, -, hc⟩
  · rcases right_any b with ⟨k, k0, k1, kc⟩ | ⟨k, -, kc⟩
    · rw [show pairR a b (a - b) = lim (a - b) by unfold pairR ck2; rw [if_pos (by rw [if_pos h]; exact k)]]; clear h k
      go_enter Tryd.func17, Tryd.ntmps17
      go_wp2_with (first | (go_at_call 41; (first | (with_reducible refine (hc _).mono ?_) | (with_reducible refine (kc _).mono ?_)); rintro e w' ⟨rfl, rfl⟩) | (go_at_call 42; refine (told_true (a - b) _).mono ?_; rintro e w' ⟨rfl, rfl⟩))
      go_ret2
      exact ⟨rfl, rfl⟩
    · rw [show pairR a b (a - b) = (0, 2) by unfold pairR ck2; rw [if_neg (by rw [if_pos h]; omega)]]; clear h k
      go_enter Tryd.func17, Tryd.ntmps17
      go_wp2_with (first | (go_at_call 41; (first | (with_reducible refine (hc _).mono ?_) | (with_reducible refine (kc _).mono ?_)); rintro e w' ⟨rfl, rfl⟩))
      go_ret2
      exact ⟨rfl, rfl⟩
  · rw [show pairR a b (a - b) = (0, 2) by unfold pairR ck2; rw [if_neg (by rw [if_neg (by omega)]; omega)]]; clear h
    go_enter Tryd.func17, Tryd.ntmps17
    go_wp2_with (first | (go_at_call 41; refine (hc _).mono ?_; rintro e w' ⟨rfl, rfl⟩))
    go_ret2
    exact ⟨rfl, rfl⟩

end Go.Proofs.YtkapjdehcanppaaDoor
