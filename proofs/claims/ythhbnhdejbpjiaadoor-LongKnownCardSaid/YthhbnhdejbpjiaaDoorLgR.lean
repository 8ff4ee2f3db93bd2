/-
  Roots, and the steps to them (plain mathematics).
-/
import Derived.Test.YthhbnhdejbpjiaaDoorLgM
namespace Go.Proofs.YthhbnhdejbpjiaaDoor
open Go.RowKit

/-- The root of a number, rounded down. -/
def sqn : Nat → Nat
  | 0 => 0
  | n + 1 => if (sqn n + 1) * (sqn n + 1) ≤ n + 1 then sqn n + 1 else sqn n
def rt (x : Int) : Int := (sqn x.toNat : Nat)
theorem sqn_spec (n : Nat) : sqn n * sqn n ≤ n ∧ n < (sqn n + 1) * (sqn n + 1) := by
  induction n with
  | zero => simp [sqn]
  | succ n ih =>
    rw [sqn]
    split
    · rename_i h
      refine ⟨h, ?_⟩
      generalize sqn n = s at *
      have : (s + 1 + 1) * (s + 1 + 1) = (s + 1) * (s + 1) + 2 * (s + 1) + 1 := by grind
      omega
    · omega
theorem rt_spec (x : Int) (hx : 0 ≤ x) : 0 ≤ rt x ∧ rt x * rt x ≤ x ∧ x < (rt x + 1) * (rt x + 1) := by
  have := sqn_spec x.toNat
  unfold rt
  refine ⟨by omega, ?_, ?_⟩
  · have : ((sqn x.toNat * sqn x.toNat : Nat) : Int) ≤ (x.toNat : Int) := by exact_mod_cast this.1
    rw [Int.natCast_mul] at this; omega
  · have : ((x.toNat : Nat) : Int) < (((sqn x.toNat + 1) * (sqn x.toNat + 1) : Nat) : Int) := by exact_mod_cast this.2
    have e : ((sqn x.toNat + 1 : Nat) : Int) = (sqn x.toNat : Int) + 1 := by omega
    rw [Int.natCast_mul, e] at this; omega
theorem sq_le {a b : Int} (ha : 0 ≤ a) (h : a ≤ b) : a * a ≤ b * b := Int.mul_le_mul h h ha (by omega)
theorem sq_lt_le {a b : Int} (hb : 0 ≤ b) (h : a * a < (b + 1) * (b + 1)) : a ≤ b := by
  rcases Int.lt_or_le b a with k | k
  · have := sq_le (a := b + 1) (b := a) (by omega) (by omega); omega
  · exact k
theorem rt_uniq {x s : Int} (hs : 0 ≤ s) (h0 : s * s ≤ x) (h1 : x < (s + 1) * (s + 1)) : rt x = s := by
  have hx : 0 ≤ x := by have := Int.mul_nonneg hs hs; omega
  obtain ⟨r0, r1, r2⟩ := rt_spec x hx
  have a := sq_lt_le (a := s) (b := rt x) r0 (by omega)
  have b := sq_lt_le (a := rt x) (b := s) hs (by omega)
  omega
/-- One improvement of what is at least the root. -/
theorem newton {x r : Int} (hx : 1 ≤ x) (hr : rt x ≤ r) : 1 ≤ r ∧ rt x ≤ (r + x / r) / 2 ∧ (r ≤ (r + x / r) / 2 → r = rt x) ∧ 0 ≤ x / r ∧ x / r ≤ x ∧ 1 ≤ rt x := by
  obtain ⟨s0, s1, s2⟩ := rt_spec x (by omega)
  generalize rt x = s at *
  have s1' : 1 ≤ s := by
    rcases Int.lt_or_le s 1 with h | h
    · have : s = 0 := by omega
      subst this; omega
    · exact h
  have r1 : 1 ≤ r := by omega
  have q0 : 0 ≤ x / r := Int.ediv_nonneg (by omega) (by omega)
  refine ⟨r1, ?_, ?_, q0, Int.ediv_le_self _ (by omega), s1'⟩
  · have h : 2 * s - r ≤ x / r := by
      refine (Int.le_ediv_iff_mul_le (by omega)).2 ?_
      have h2 : (2 * s - r) * r + (s - r) * (s - r) = s * s := by grind
      have h3 : 0 ≤ (s - r) * (s - r) := by
        rw [show s - r = -(r - s) by omega, Int.neg_mul_neg]; exact Int.mul_nonneg (by omega) (by omega)
      omega
    omega
  · intro h
    have h2 : r ≤ x / r := by omega
    have h3 := (Int.le_ediv_iff_mul_le (show 0 < r by omega)).1 h2
    have := sq_lt_le (a := r) (b := s) s0 (by omega)
    omega
/-- The root of the first digits, one more, shifted back, is more than the root. -/
theorem rt_shift {x P : Int} (hx : 0 ≤ x) (hP : 0 < P) : rt x ≤ (rt (x / (P * P)) + 1) * P := by
  have hPP : 0 < P * P := Int.mul_pos hP hP
  obtain ⟨s0, s1, s2⟩ := rt_spec x hx
  obtain ⟨f0, f1, f2⟩ := rt_spec (x / (P * P)) (Int.ediv_nonneg hx (by omega))
  generalize rt (x / (P * P)) = f at *
  have h1 := Int.lt_mul_of_ediv_lt hPP (show x / (P * P) < (f + 1) * (f + 1) by omega)
  rcases Int.lt_or_le ((f + 1) * P) (rt x) with h | h
  · have := sq_le (a := (f + 1) * P) (b := rt x) (Int.mul_nonneg (by omega) (by omega)) (by omega)
    have e : (f + 1) * P * ((f + 1) * P) = (f + 1) * (f + 1) * (P * P) := by grind
    omega
  · exact h
theorem rt_le_self {x : Int} (hx : 0 ≤ x) : rt x ≤ x := by
  obtain ⟨s0, s1, s2⟩ := rt_spec x hx
  generalize rt x = s at *
  by_cases h : s = 0
  · omega
  · have := Int.mul_le_mul_of_nonneg_left (show 1 ≤ s by omega) s0
    omega
theorem rt_lt {x P : Int} (hx : 0 ≤ x) (hP : 0 < P) (h : x < P * P) : rt x < P := by
  obtain ⟨s0, s1, s2⟩ := rt_spec x hx
  rcases Int.lt_or_le (rt x) P with k | k
  · exact k
  · have := sq_le (a := P) (b := rt x) (by omega) k; omega
end Go.Proofs.YthhbnhdejbpjiaaDoor
