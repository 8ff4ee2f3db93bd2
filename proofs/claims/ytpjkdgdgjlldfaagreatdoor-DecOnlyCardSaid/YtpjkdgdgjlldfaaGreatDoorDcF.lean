/-
  Fixed-point numbers rounded to decimal places: plain mathematics.
-/
import Derived.Test.YtpjkdgdgjlldfaaGreatDoorFixI
namespace Go.Proofs.YtpjkdgdgjlldfaaGreatDoor
open Go.RowKit

/-- The number v / 2^32 in units of 1 / P, rounded. -/
def fxN (up : Bool) (v P : Int) : Int := rq up (v * P) 4294967296
theorem fx_mult (up : Bool) (v P : Int) : v.tdiv 4294967296 * P + rq up (v.tmod 4294967296 * P) 4294967296 = fxN up v P := by
  have h := Int.tmod_add_mul_tdiv v 4294967296
  generalize v.tdiv 4294967296 = q at *
  generalize v.tmod 4294967296 = r at *
  subst h
  unfold fxN rq
  have e : (r + 4294967296 * q) * P = r * P + q * P * 4294967296 := by rw [Int.add_mul, Int.mul_assoc, Int.mul_comm 4294967296]
  rw [e]
  cases up
  · simp only [Bool.false_eq_true, if_false]
    rw [Int.add_mul_ediv_right _ _ (by omega)]; omega
  · simp only [if_true]
    rw [show -(r * P + q * P * 4294967296) = -(r * P) + (-(q * P)) * 4294967296 by rw [Int.neg_add, Int.neg_mul], Int.add_mul_ediv_right _ _ (by omega)]; omega
theorem fx_bd (up : Bool) {v P : Int} (v0 : -4503599627370496 ≤ v) (v1 : v ≤ 4503599627370496) (hp : 0 < P) : -(1048576 * P) ≤ fxN up v P ∧ fxN up v P ≤ 1048576 * P := by
  have h0 : -4503599627370496 * P ≤ v * P := Int.mul_le_mul_of_nonneg_right v0 (by omega)
  have h1 : v * P ≤ 4503599627370496 * P := Int.mul_le_mul_of_nonneg_right v1 (by omega)
  unfold fxN rq
  generalize v * P = x at *
  cases up <;> simp only [Bool.false_eq_true, if_false, if_true] <;> omega
theorem fx_two (v P : Int) : fxN true v P = fxN false v P ∨ fxN true v P = fxN false v P + 1 := by
  unfold fxN rq
  generalize v * P = x
  simp only [Bool.false_eq_true, if_false, if_true]; omega
theorem fx_low (v P : Int) (hp : 0 < P) : rq true (fxN false v P * 4294967296) P ≤ v := by
  have h : fxN false v P * 4294967296 ≤ v * P := by
    unfold fxN rq
    generalize v * P = x
    simp only [Bool.false_eq_true, if_false]; omega
  generalize fxN false v P * 4294967296 = y at *
  unfold rq
  simp only [if_true]
  have : -v ≤ (-y) / P := (Int.le_ediv_iff_mul_le hp).2 (by rw [Int.neg_mul]; omega)
  omega
theorem fx_high (v P : Int) (hp : 0 < P) : v ≤ rq false (fxN true v P * 4294967296) P := by
  have h : v * P ≤ fxN true v P * 4294967296 := by
    unfold fxN rq
    generalize v * P = x
    simp only [if_true]; omega
  generalize fxN true v P * 4294967296 = y at *
  unfold rq
  simp only [Bool.false_eq_true, if_false]
  exact (Int.le_ediv_iff_mul_le hp).2 h
end Go.Proofs.YtpjkdgdgjlldfaaGreatDoor
