/-
  The references for layers 1 and 2: FromDec, Dec.
-/
import Derived.Test.YtabnpidmhmebfaaDoorSpS
import Derived.Test.YtabnpidmhmebfaaDoorSpG
import Derived.Test.YtabnpidmhmebfaaDoorRefB
import Derived.Test.YtabnpidmhmebfaaDoorFixV
namespace Go.Proofs.YtabnpidmhmebfaaDoor
open Go.RowKit

/-- The number n / 10^k, rounded, as the reference finds it. -/
theorem dec_ref_num (n : Int) (d : Int) (up ng : Bool) (hd : 0 < d) (_hn : ng = decide (n < 0)) :
    (ovF 4294967296 n.natAbs d = (4294967296 * (n.natAbs : Int) / d, decide (0 < 4294967296 * (n.natAbs : Int) % d), true) ∧ 0 ≤ 4294967296 * (n.natAbs : Int) / d ∧ 4294967296 * (n.natAbs : Int) / d ≤ 4503599627370496 ∧
      rdiv (up != ng) (4294967296 * (n.natAbs : Int)) d = if decide (0 < 4294967296 * (n.natAbs : Int) % d) && (up != ng) then 4294967296 * (n.natAbs : Int) / d + 1 else 4294967296 * (n.natAbs : Int) / d) ∨
    (ovF 4294967296 n.natAbs d = (0, false, false) ∧ putV ng (rdiv (up != ng) (4294967296 * (n.natAbs : Int)) d) = (0, false)) := by
  have hq0 : 0 ≤ 4294967296 * (n.natAbs : Int) / d := Int.ediv_nonneg (by omega) (by omega)
  by_cases h : 4294967296 * (n.natAbs : Int) / d ≤ 4503599627370496
  · left
    refine ⟨by unfold ovF; rw [if_pos h], hq0, h, ?_⟩
    unfold rdiv
    cases up <;> cases ng <;> simp
  · right
    refine ⟨by unfold ovF; rw [if_neg h], ?_⟩
    have : 4294967296 * (n.natAbs : Int) / d ≤ rdiv (up != ng) (4294967296 * (n.natAbs : Int)) d := by
      unfold rdiv; split <;> omega
    unfold putV; rw [if_pos (by omega)]

/-- What the reference tells of n / d. -/
def decV (up : Bool) (n d : Int) : Int × Bool := putV (decide (n < 0)) (rdiv (up != decide (n < 0)) (4294967296 * (n.natAbs : Int)) d)
theorem decV_lim (up : Bool) (n d : Int) (hd : 0 < d) : (decV up n d).2 = true ∧ lim (rq up (n * 4294967296) d) = ((decV up n d).1, 0) ∨ (decV up n d).2 = false ∧ lim (rq up (n * 4294967296) d) = (0, 6) := by
  have e : lim (rq up (n * 4294967296) d) = sgR (decide (n < 0)) (rdiv (up != decide (n < 0)) (4294967296 * (n.natAbs : Int)) d) := by
    rw [sgR_lim _ _ (rdiv_nonneg _ _ _ (by omega) hd), rdiv_rq _ _ _ hd]
    by_cases hn : n < 0
    · simp only [hn, decide_true]
      rw [show (n * 4294967296 : Int) = -(4294967296 * (n.natAbs : Int)) by omega, rq_neg]
      cases up <;> simp
    · simp only [hn, decide_false]
      rw [show (n * 4294967296 : Int) = 4294967296 * (n.natAbs : Int) by omega]
      cases up <;> simp
  rw [e]
  unfold decV putV sgR
  split <;> simp

/-- A result of FromDec is always an interval. -/
theorem decR_ok (n k : Int) : (decR n k).2.2 = 0 → ofR (decR n k).1 (decR n k).2.1 = ((decR n k).1, (decR n k).2.1, 0) := by
  intro _
  obtain ⟨b0, b1, b2, b3⟩ := decR_bd n k
  unfold ofR; rw [if_pos (ckS_ok b0 (decR_le n k) b3)]
theorem decR_zero (n k : Int) : (decR n k).2.2 ≠ 0 → (decR n k).1 = 0 ∧ (decR n k).2.1 = 0 := by
  unfold decR
  split
  · simp
  · split <;> simp
theorem sDecR_eq (n k : Int) : sDecR n k = decR n k := by
  unfold sDecR
  split
  · rw [decR_ok n k ‹_›, ← ‹(decR n k).2.2 = 0›]
  · obtain ⟨h1, h2⟩ := decR_zero n k ‹_›
    ext <;> simp [h1, h2]
end Go.Proofs.YtabnpidmhmebfaaDoor
