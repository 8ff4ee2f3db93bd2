/-
  The reference for layer 1: size, put, Div, quotient, DivDown, DivUp.
-/
import Derived.Test.YtabnpidmhmebfaaDoorRefA
namespace Go.Proofs.YtabnpidmhmebfaaDoor
open Go.RowKit

/-- A magnitude with its sign, or that it is too great. -/
def putV (ng : Bool) (m : Int) : Int × Bool := if 4503599627370496 < m then (0, false) else (if ng then -m else m, true)
theorem div_ref_num (a b : Int) (up ng : Bool) (hb : b ≠ 0) :
    (ovF 4294967296 a.natAbs b.natAbs = (4294967296 * (a.natAbs : Int) / (b.natAbs : Int), decide (0 < 4294967296 * (a.natAbs : Int) % (b.natAbs : Int)), true) ∧ 0 ≤ 4294967296 * (a.natAbs : Int) / (b.natAbs : Int) ∧ 4294967296 * (a.natAbs : Int) / (b.natAbs : Int) ≤ 4503599627370496 ∧
      rdiv (up != ng) ((a.natAbs : Int) * 4294967296) (b.natAbs : Int) = if decide (0 < 4294967296 * (a.natAbs : Int) % (b.natAbs : Int)) && (up != ng) then 4294967296 * (a.natAbs : Int) / (b.natAbs : Int) + 1 else 4294967296 * (a.natAbs : Int) / (b.natAbs : Int)) ∨
    (ovF 4294967296 a.natAbs b.natAbs = (0, false, false) ∧ putV ng (rdiv (up != ng) ((a.natAbs : Int) * 4294967296) (b.natAbs : Int)) = (0, false)) := by
  have hd : 0 < (b.natAbs : Int) := by omega
  rw [Int.mul_comm 4294967296]
  have e : (a.natAbs : Int) * 4294967296 = 4294967296 * (a.natAbs : Int) := Int.mul_comm _ _
  have hq0 : 0 ≤ (a.natAbs : Int) * 4294967296 / (b.natAbs : Int) := Int.ediv_nonneg (by omega) (by omega)
  by_cases h : (a.natAbs : Int) * 4294967296 / (b.natAbs : Int) ≤ 4503599627370496
  · left
    refine ⟨by unfold ovF; rw [← e, if_pos h], hq0, h, ?_⟩
    unfold rdiv
    cases up <;> cases ng <;> simp
  · right
    refine ⟨by unfold ovF; rw [← e, if_neg h], ?_⟩
    have : (a.natAbs : Int) * 4294967296 / (b.natAbs : Int) ≤ rdiv (up != ng) ((a.natAbs : Int) * 4294967296) (b.natAbs : Int) := by
      unfold rdiv; split <;> omega
    unfold putV; rw [if_pos (by omega)]

end Go.Proofs.YtabnpidmhmebfaaDoor
