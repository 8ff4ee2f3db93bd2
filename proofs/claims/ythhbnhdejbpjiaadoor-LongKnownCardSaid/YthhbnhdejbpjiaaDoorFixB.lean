/-
  Walks of package fix: numbers of 128 bits: product, next, exceeds.
-/
import Derived.Test.YthhbnhdejbpjiaaDoorFixA
import Derived.Test.YthhbnhdejbpjiaaDoorShelf
import Derived.Lib.Hide
namespace Go.Proofs.YthhbnhdejbpjiaaDoor
open Go.RowKit

/-- The upper and the lower half of a number of 128 bits. -/
def hi64 (n : Int) : Int := n / 18446744073709551616
def lo64 (n : Int) : Int := n % 18446744073709551616
theorem lo64_lt (n : Int) : 0 ≤ lo64 n ∧ lo64 n ≤ 18446744073709551615 := by unfold lo64; omega
theorem hi64_lt (n : Int) (h0 : 0 ≤ n) (h1 : n < 340282366920938463463374607431768211456) : 0 ≤ hi64 n ∧ hi64 n ≤ 18446744073709551615 := by unfold hi64; omega

theorem mul64 (a b : Int) (w : World) (a0 : 0 ≤ a) (a1 : a ≤ 18446744073709551615) (b0 : 0 ≤ b) (b1 : b ≤ 18446744073709551615) :
    Calls Tryd.prog 46 #[.int .u64 a, .int .u64 b] w fun e w' => e = .returned (.tuple #[.int .u64 (hi64 (a * b)), .int .u64 (lo64 (a * b))]) ∧ w = w' := by
  obtain ⟨x, rfl⟩ := Int.eq_ofNat_of_zero_le a0
  obtain ⟨y, rfl⟩ := Int.eq_ofNat_of_zero_le b0
  refine (Tryd.bits_Mul64 x y (by omega) (by omega) w).mono ?_
  rintro e w' ⟨he, hw⟩
  refine ⟨?_, hw.symm⟩
  rw [he]
  unfold hi64 lo64
  rw [← Int.natCast_mul]
  generalize x * y = n
  rw [show ((n / 18446744073709551616 : Nat) : Int) = (n : Int) / 18446744073709551616 by omega, show ((n % 18446744073709551616 : Nat) : Int) = (n : Int) % 18446744073709551616 by omega]

/-- Whether a number is greater than another one: closed to the walk. -/
def gtB (a b : Int) : Bool := decide (b < a)
theorem add64_1 (x : Int) (w : World) (x0 : 0 ≤ x) :
    (callFunc 47 #[.int .u64 x, .int .u64 1, .int .u64 0]).run Tryd.prog w =
      .ok (.value (.tuple #[.int .u64 (lo64 (x + 1)), .int .u64 (hi64 (x + 1))])) w := by
  rw [run_callFunc_extern Tryd.func47 (by kernel_rfl) (by kernel_rfl) (by kernel_rfl) (e := add64Entry) (by kernel_rfl), run_add64 x 1 0 x0 (by omega) (by omega) (by omega)]
  simp only [Result.andThen, Int.add_zero]
  rfl

end Go.Proofs.YthhbnhdejbpjiaaDoor
