/-
  The plain functions of the reference for layer 1: Right, told, Check, Add, Sub, Neg.
-/
import Derived.Test.YtdaignklmbmcnaaFixJ
namespace Go.Proofs.Ytdaignklmbmcnaa
open Go.RowKit

theorem right_ok (a : Int) (w : World) (h0 : -4503599627370496 ≤ a) (h1 : a ≤ 4503599627370496) :
    Calls Try.prog 59 #[.int .i64 a] w fun e w' => e = .returned (.bool true) ∧ w = w' := by
  go_enter Try.func59, Try.ntmps59
  go_wp2
  go_ret
  exact ⟨rfl, rfl⟩
theorem right_no (a : Int) (w : World) (h0 : a < -4503599627370496 ∨ 4503599627370496 < a) :
    Calls Try.prog 59 #[.int .i64 a] w fun e w' => e = .returned (.bool false) ∧ w = w' := by
  rcases h0 with h0 | h0
  · go_enter Try.func59, Try.ntmps59
    go_wp2
    go_ret
    exact ⟨rfl, rfl⟩
  · have hd : decide (a ≤ 4503599627370496) = false := decide_eq_false (by omega)
    go_enter Try.func59, Try.ntmps59
    go_wp2
    go_ret
    exact ⟨rfl, rfl⟩
theorem told_true (a : Int) (w : World) :
    Calls Try.prog 73 #[.int .i64 a, .bool true] w fun e w' => e = .returned (.tuple #[.int .i64 (lim a).1, .int .i64 (lim a).2]) ∧ w = w' := by
  rcases lim_cases a with ⟨h, h0, h1⟩ | ⟨h, h0⟩
  · rw [h]
    go_enter Try.func73, Try.ntmps73
    go_wp2_with (go_at_call 59; refine (right_ok a _ h0 h1).mono ?_; rintro e w' ⟨rfl, rfl⟩)
    go_ret2
    exact ⟨rfl, rfl⟩
  · rw [h]
    have hc := fun w => right_no a w h0
    clear h0
    go_enter Try.func73, Try.ntmps73
    go_wp2_with (go_at_call 59; refine (hc _).mono ?_; rintro e w' ⟨rfl, rfl⟩)
    go_ret2
    exact ⟨rfl, rfl⟩
theorem told_false (a : Int) (w : World) :
    Calls Try.prog 73 #[.int .i64 a, .bool false] w fun e w' => e = .returned (.tuple #[.int .i64 0, .int .i64 6]) ∧ w = w' := by
  go_enter Try.func73, Try.ntmps73
  go_wp2
  go_ret2
  exact ⟨rfl, rfl⟩
theorem right_any (a : Int) : (ckErr a = 0 ∧ -4503599627370496 ≤ a ∧ a ≤ 4503599627370496 ∧ ∀ w, Calls Try.prog 59 #[.int .i64 a] w fun e w' => e = .returned (.bool true) ∧ w = w') ∨
    (ckErr a = 2 ∧ (a < -4503599627370496 ∨ 4503599627370496 < a) ∧ ∀ w, Calls Try.prog 59 #[.int .i64 a] w fun e w' => e = .returned (.bool false) ∧ w = w') := by
  rcases ckErr_cases a with ⟨h, h0, h1⟩ | ⟨h, h0⟩
  · exact Or.inl ⟨h, h0, h1, fun w => right_ok a w h0 h1⟩
  · exact Or.inr ⟨h, h0, fun w => right_no a w h0⟩
end Go.Proofs.Ytdaignklmbmcnaa
