/-
  The reference for layer 1: over, size, put, Div, quotient.
-/
import Derived.Test.YtabnpidmhmebfaaDoorFixQ
namespace Go.Proofs.YtabnpidmhmebfaaDoor
open Go.RowKit

/-- What the reference's long division returns. -/
def ovF (a n d : Int) : Int × Bool × Bool := if a * n / d ≤ 4503599627370496 then (a * n / d, decide (0 < a * n % d), true) else (0, false, false)

theorem bit_step (a : Int) (k : Nat) (hk : k < 64) : a / (2 ^ (63 - k) : Nat) = 2 * (a / (2 ^ (64 - k) : Nat)) + a / (2 ^ (63 - k) : Nat) % 2 := by
  have e : (2 ^ (64 - k) : Nat) = 2 ^ (63 - k) * 2 := by rw [show 64 - k = (63 - k) + 1 by omega, Nat.pow_succ]
  rw [e, Int.natCast_mul, ← Int.ediv_ediv_of_nonneg (by omega)]
  omega

theorem ov_bound (A n d bit T : Int) (q r : Int) (hd : 1 ≤ d) (hq : q = A * n / d) (hr : r = A * n % d) (hT : T = (2 * A + bit) * n) (hb : bit = 0 ∨ bit = 1) (hn0 : 0 ≤ n) :
    (2 * q + bit * (n / d)) * d + (2 * r + bit * (n % d)) = T ∧ T / d ≤ 2 * q + 2 + n / d := by
  have m1 := Int.mul_ediv_add_emod (A * n) d
  have m2 := Int.mul_ediv_add_emod n d
  have r0 := Int.emod_nonneg (A * n) (show d ≠ 0 by omega)
  have r1 := Int.emod_lt_of_pos (A * n) (show 0 < d by omega)
  have r2 := Int.emod_lt_of_pos n (show 0 < d by omega)
  have r3 := Int.emod_nonneg n (show d ≠ 0 by omega)
  have hnd : 0 ≤ n / d := Int.ediv_nonneg hn0 (by omega)
  rw [← hq, ← hr] at m1
  rw [← hr] at r0 r1
  generalize n / d = x at *
  generalize n % d = y at *
  have e1 : (2 * q + bit * x) * d + (2 * r + bit * y) = 2 * (d * q + r) + bit * (d * x + y) := by grind
  have e2 : T = 2 * (A * n) + bit * n := by rw [hT]; grind
  refine ⟨by rw [e1, m1, m2, e2], ?_⟩
  apply Int.le_of_lt_add_one
  rw [Kn.div_le_iff (by omega)]
  have e3 : (2 * q + 2 + x + 1) * d = 2 * (d * q) + 2 * d + d * x + d := by grind
  rw [e2, ← m1, ← m2, e3]
  rcases hb with rfl | rfl
  · have : 0 ≤ d * x := Int.mul_nonneg (by omega) hnd
    omega
  · omega

end Go.Proofs.YtabnpidmhmebfaaDoor
