/-
  Decimal digits of a number, the least significant one first (plain mathematics).
-/
import Derived.Test.YtoppdbgodceaiaaDoorLgT
namespace Go.Proofs.YtoppdbgodceaiaaDoor
open Go.RowKit

/-- The decimal digits, so many of them, from the least significant one on. -/
def lo (n : Nat) (X : Nat) : List UInt8 := (List.range n).map fun j => UInt8.ofNat (48 + X / 10 ^ j % 10)
theorem lo_length (n X : Nat) : (lo n X).length = n := by simp [lo]
theorem lo_succ (n X : Nat) : lo (n + 1) X = lo n X ++ [UInt8.ofNat (48 + X / 10 ^ n % 10)] := by
  unfold lo
  rw [List.range_succ, List.map_append]; rfl
theorem lo_cons (n X : Nat) : lo (n + 1) X = UInt8.ofNat (48 + X % 10) :: lo n (X / 10) := by
  unfold lo
  rw [List.range_succ_eq_map, List.map_cons, List.map_map]
  congr 1
  · simp
  · apply List.map_congr_left
    intro j _
    simp only [Function.comp, Nat.pow_succ]
    rw [Nat.div_div_eq_div_mul, Nat.mul_comm (10 ^ j) 10]
theorem lo_take (n m X : Nat) (h : m ≤ n) : (lo n X).take m = lo m X := by
  unfold lo
  rw [← List.map_take, List.take_range, Nat.min_eq_left h]
/-- All the digits. -/
theorem lo_dec (X : Nat) : lo (Lib.decDigits X).length X = (Lib.decDigits X).reverse ∧ X < 10 ^ (Lib.decDigits X).length ∧ (0 < X → 10 ^ ((Lib.decDigits X).length - 1) ≤ X) ∧ 0 < (Lib.decDigits X).length := by
  induction X using Nat.strongRecOn with
  | ind X ih =>
    by_cases h : X < 10
    · rw [Lib.decDigits_one h]
      refine ⟨?_, by simpa using h, fun h => by simp; omega, by simp⟩
      rw [show ([UInt8.ofNat (48 + X)] : List UInt8).length = 0 + 1 from rfl, lo_cons, Nat.mod_eq_of_lt h]
      rfl
    · obtain ⟨i1, i2, i3, i4⟩ := ih (X / 10) (by omega)
      rw [Lib.decDigits, dif_neg h]
      rw [List.length_append, List.length_singleton]
      refine ⟨?_, ?_, fun _ => ?_, by omega⟩
      · rw [lo_cons, i1]; simp
      · rw [Nat.pow_succ]; omega
      · obtain ⟨m, hm⟩ : ∃ m, (Lib.decDigits (X / 10)).length = m + 1 := ⟨_, (Nat.sub_add_cancel i4).symm⟩
        rw [hm] at i3 ⊢
        have := i3 (by omega)
        simp only [Nat.add_sub_cancel] at *
        rw [Nat.pow_succ]; omega
theorem tx_lo {x : Int} (hx : 0 < x) : lo (tx x).length x.toNat = (tx x).reverse ∧ x.toNat < 10 ^ (tx x).length ∧ 10 ^ ((tx x).length - 1) ≤ x.toNat ∧ 0 < (tx x).length := by
  obtain ⟨h1, h2, h3, h4⟩ := lo_dec x.toNat
  exact ⟨h1, h2, h3 (by omega), h4⟩
/-- Digits beyond the text are 0; its last one is not. -/
theorem lo_high {X N j : Nat} (h : X < 10 ^ N) (hj : N ≤ j) : X / 10 ^ j % 10 = 0 := by
  have : 10 ^ N ≤ 10 ^ j := Nat.pow_le_pow_right (by omega) hj
  rw [Nat.div_eq_of_lt (by omega)]
theorem lo_top {X N : Nat} (h0 : 10 ^ (N - 1) ≤ X) (h : X < 10 ^ N) (hN : 0 < N) : X / 10 ^ (N - 1) % 10 ≠ 0 := by
  obtain ⟨m, rfl⟩ : ∃ m, N = m + 1 := ⟨N - 1, by omega⟩
  rw [Nat.add_sub_cancel] at *
  rw [Nat.pow_succ] at h
  have h1 := (Nat.le_div_iff_mul_le (Nat.pow_pos (n := m) (show 0 < 10 by omega))).2 (show 1 * 10 ^ m ≤ X by omega)
  have h2 : X / 10 ^ m < 10 := Nat.div_lt_of_lt_mul (by omega)
  omega
/-- A digit of a digit to the base 10^9. -/
theorem lo_digit {x : Int} (hx : 0 ≤ x) (i k : Nat) (hk : k < 9) : (el (dg x) i).toNat / 10 ^ k % 10 = x.toNat / 10 ^ (9 * i + k) % 10 := by
  rw [el_dg x hx i]
  obtain ⟨n, rfl⟩ := Int.eq_ofNat_of_zero_le hx
  have e : ((n : Int) / 1000000000 ^ i % 1000000000).toNat = n / 1000000000 ^ i % 1000000000 := by
    have : ((1000000000 : Int) ^ i) = ((1000000000 ^ i : Nat) : Int) := by simp
    rw [this]
    have h2 : ((n : Int) / ((1000000000 ^ i : Nat) : Int) % 1000000000) = ((n / 1000000000 ^ i % 1000000000 : Nat) : Int) := by simp
    rw [h2]; rfl
  rw [e, show ((n : Int)).toNat = n from rfl, Nat.pow_add, Nat.pow_mul, show 10 ^ 9 = 1000000000 from rfl, ← Nat.div_div_eq_div_mul]
  generalize n / 1000000000 ^ i = m
  have h9 : 1000000000 = 10 ^ k * (10 * 10 ^ (8 - k)) := by
    rw [← Nat.pow_succ', ← Nat.pow_add]
    show _ = 10 ^ (k + (8 - k + 1))
    rw [show k + (8 - k + 1) = 9 by omega]
  rw [h9, Nat.mod_mul_right_div_self, Nat.mod_mul_right_mod]
end Go.Proofs.YtoppdbgodceaiaaDoor
