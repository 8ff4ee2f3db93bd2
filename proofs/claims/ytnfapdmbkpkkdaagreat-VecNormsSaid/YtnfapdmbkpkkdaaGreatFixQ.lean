/-
  The plain functions of the reference for layer 1: Right, told, Check, Add, Sub, Neg.
-/
import Derived.Test.YtnfapdmbkpkkdaaGreatFixJ
namespace Go.Proofs.YtnfapdmbkpkkdaaGreat
open Go.RowKit

theorem right_ok (a : Int) (w : World) (h0 : -4503599627370496 ≤ a) (h1 : a ≤ 4503599627370496) :
    Calls Tryz.prog 76 #[.int .i64 a] w fun e w' => e = .returned (.bool true) ∧ w = w' := by
  go_enter Tryz.func76, Tryz.ntmps76
  go_wp2
  go_ret
  exact ⟨rfl, rfl⟩
theorem right_no (a : Int) (w : World) (h0 : a < -4503599627370496 ∨ 4503599627370496 < a) :
    Calls Tryz.prog 76 #[.int .i64 a] w fun e w' => e = .returned (.bool false) ∧ w = w' := by
  rcases h0 with h0 | h0
  · go_enter Tryz.func76, Tryz.ntmps76
    go_wp2
    go_ret
    exact ⟨rfl, rfl⟩
  · have hd : decide (a ≤ 4503599627370496) = false := decide_eq_false (by omega)
    go_enter Tryz.func76, Tryz.ntmps76
    go_wp2
    go_ret
    exact ⟨rfl, rfl⟩
theorem right_any (a : Int) : (ckErr a = 0 ∧ -4503599627370496 ≤ a ∧ a ≤ 4503599627370496 ∧ ∀ w, Calls Tryz.prog 76 #[.int .i64 a] w fun e w' => e = .returned (.bool true) ∧ w = w') ∨
    (ckErr a = 2 ∧ (a < -4503599627370496 ∨ 4503599627370496 < a) ∧ ∀ w, Calls Tryz.prog 76 #[.int .i64 a] w fun e w' => e = .returned (.bool false) ∧ w = w') := by
  rcases ckErr_cases a with ⟨h, h0, h1⟩ | ⟨h, h0⟩
  · exact Or.inl ⟨h, h0, h1, fun w => right_ok a w h0 h1⟩
  · exact Or.inr ⟨h, h0, fun w => right_no a w h0⟩
end Go.Proofs.YtnfapdmbkpkkdaaGreat
