/-
  The chapter's examples, as the statements look at them: the function works answers true.
-/
import Derived.Test.YtnfapdmbkpkkdaaGreatFixJ
namespace Go.Proofs.YtnfapdmbkpkkdaaGreat
open Go.RowKit

theorem isqrt_eq (n r : Int) (r0 : 0 ≤ r) (h0 : r * r ≤ n) (h1 : n < (r + 1) * (r + 1)) (hn : n < 77371252455336267181195264) : isqrt n = r := by
  have hn0 : 0 ≤ n := by have := Int.mul_nonneg r0 r0; omega
  obtain ⟨i0, i1, i2, i3⟩ := isqrt_spec n hn0 hn
  apply Int.le_antisymm
  · apply Int.le_of_lt_add_one
    apply Int.lt_of_not_ge
    intro h
    have := Int.mul_le_mul h h (by omega) (by omega)
    omega
  · apply Int.le_of_lt_add_one
    apply Int.lt_of_not_ge
    intro h
    have := Int.mul_le_mul h h (by omega) (by omega)
    omega
theorem sqrtR_down (a r : Int) (a0 : 0 ≤ a) (a1 : a ≤ 4503599627370496) (r0 : 0 ≤ r) (h0 : r * r ≤ a * 4294967296) (h1 : a * 4294967296 < (r + 1) * (r + 1)) : sqrtR false a = (r, 0) := by
  unfold sqrtR rootR
  rw [if_pos ⟨ckErr_ok (by omega) a1, a0⟩, isqrt_eq _ r r0 h0 h1 (by omega)]
  simp
theorem sqrtR_up (a r : Int) (a0 : 0 ≤ a) (a1 : a ≤ 4503599627370496) (r0 : 0 ≤ r) (h0 : r * r < a * 4294967296) (h1 : a * 4294967296 < (r + 1) * (r + 1)) : sqrtR true a = (r + 1, 0) := by
  unfold sqrtR rootR
  rw [if_pos ⟨ckErr_ok (by omega) a1, a0⟩, isqrt_eq _ r r0 (by omega) h1 (by omega), if_pos ⟨rfl, by omega⟩]
theorem sqrtR_up_exact (a r : Int) (a0 : 0 ≤ a) (a1 : a ≤ 4503599627370496) (r0 : 0 ≤ r) (h0 : r * r = a * 4294967296) : sqrtR true a = (r, 0) := by
  unfold sqrtR rootR
  have h1 : (r + 1) * (r + 1) = r * r + 2 * r + 1 := by grind
  rw [if_pos ⟨ckErr_ok (by omega) a1, a0⟩, isqrt_eq _ r r0 (by omega) (by omega) (by omega), if_neg (by omega)]

end Go.Proofs.YtnfapdmbkpkkdaaGreat
