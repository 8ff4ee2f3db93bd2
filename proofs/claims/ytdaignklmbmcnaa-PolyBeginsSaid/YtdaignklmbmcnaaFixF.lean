/-
  Walks of package fix: root.
-/
import Derived.Test.YtdaignklmbmcnaaFixE
import Derived.Deep.RegionHeld3
namespace Go.Proofs.Ytdaignklmbmcnaa
open Go.RowKit

/-- The root, bit by bit: after k of 43 rounds. -/
def sq (n : Int) : Nat → Int
  | 0 => 0
  | k + 1 => if (sq n k + (2 ^ (42 - k) : Nat)) * (sq n k + (2 ^ (42 - k) : Nat)) ≤ n then sq n k + (2 ^ (42 - k) : Nat) else sq n k
def isqrt (n : Int) : Int := sq n 43
/-- The root, rounded down or up. -/
def rootR (to : Bool) (n : Int) : Int := if to = true ∧ isqrt n * isqrt n ≠ n then isqrt n + 1 else isqrt n

theorem sq_spec (n : Int) (n0 : 0 ≤ n) (n1 : n < 77371252455336267181195264) : ∀ k, k ≤ 43 → ∃ t : Int, 0 ≤ t ∧ sq n k = t * (2 ^ (43 - k) : Nat) ∧ sq n k * sq n k ≤ n ∧ n < (sq n k + (2 ^ (43 - k) : Nat)) * (sq n k + (2 ^ (43 - k) : Nat)) ∧ sq n k + (2 ^ (43 - k) : Nat) ≤ 8796093022208
  | 0, _ => ⟨0, by omega, by simp [sq], by simp [sq]; omega, by simp [sq]; omega, by simp [sq]⟩
  | k + 1, h => by
    obtain ⟨t, t0, h1, h2, h3, h4⟩ := sq_spec n n0 n1 k (by omega)
    have e : (2 ^ (43 - k) : Nat) = 2 * 2 ^ (42 - k) := by rw [show 43 - k = (42 - k) + 1 by omega, Nat.pow_succ]; omega
    rw [e] at h1 h3 h4
    rw [show 43 - (k + 1) = 42 - k by omega]
    have hp := Nat.two_pow_pos (42 - k)
    simp only [sq]
    generalize sq n k = r at *
    generalize hP : (2 ^ (42 - k) : Nat) = P at *
    rw [show ((2 * P : Nat) : Int) = 2 * (P : Int) by omega] at h1 h3 h4
    split
    · rename_i hc
      refine ⟨2 * t + 1, by omega, by rw [h1]; grind, hc, by rw [show r + (P : Int) + P = r + 2 * P by omega]; exact h3, by omega⟩
    · rename_i hc
      exact ⟨2 * t, by omega, by rw [h1]; grind, h2, by omega, by omega⟩

theorem isqrt_spec (n : Int) (n0 : 0 ≤ n) (n1 : n < 77371252455336267181195264) : 0 ≤ isqrt n ∧ isqrt n * isqrt n ≤ n ∧ n < (isqrt n + 1) * (isqrt n + 1) ∧ isqrt n ≤ 8796093022207 := by
  obtain ⟨t, t0, h1, h2, h3, h4⟩ := sq_spec n n0 n1 43 (by omega)
  unfold isqrt
  rw [show (2 ^ (43 - 43) : Nat) = 1 from rfl] at h1 h3 h4
  refine ⟨by rw [h1]; omega, h2, h3, by omega⟩

end Go.Proofs.Ytdaignklmbmcnaa
