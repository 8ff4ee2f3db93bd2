/-
  Package span: digits to the base 2^32 of a natural number: plain mathematics.
-/
import Derived.Test.YtabnpidmhmebfaaDoorRows
namespace Go.Proofs.YtabnpidmhmebfaaDoor

/-- Digit i of N to the base 2^32. -/
def dg (N i : Nat) : Nat := N / 4294967296 ^ i % 4294967296
/-- The carry into digit i of the product of N and f. -/
def car (N f i : Nat) : Nat := (N % 4294967296 ^ i) * f / 4294967296 ^ i
theorem pw_pos (i : Nat) : 0 < 4294967296 ^ i := Nat.pow_pos (by omega)
theorem dg_lt (N i : Nat) : dg N i < 4294967296 := Nat.mod_lt _ (by omega)
theorem car_zero (N f : Nat) : car N f 0 = 0 := by simp [car, Nat.mod_one]
theorem car_le (N f i : Nat) : car N f i ≤ f := by
  unfold car
  have h := Nat.mod_lt N (pw_pos i)
  apply Nat.le_of_lt_succ
  rw [Nat.div_lt_iff_lt_mul (pw_pos i)]
  have h1 : N % 4294967296 ^ i * f ≤ 4294967296 ^ i * f := Nat.mul_le_mul_right f (by omega)
  have h2 : 4294967296 ^ i * f < f.succ * 4294967296 ^ i := by
    rw [Nat.mul_comm, Nat.succ_mul]; have := pw_pos i; omega
  omega
theorem mul_step (N f i : Nat) : (dg N i * f + car N f i) % 4294967296 = dg (N * f) i ∧ (dg N i * f + car N f i) / 4294967296 = car N f (i + 1) := by
  have hp := pw_pos i
  have hq : N * f / 4294967296 ^ i = N / 4294967296 ^ i * f + car N f i := by
    unfold car
    have e : N * f = (N % 4294967296 ^ i) * f + (N / 4294967296 ^ i * f) * 4294967296 ^ i := by
      have h0 := Nat.div_add_mod N (4294967296 ^ i)
      calc N * f = (4294967296 ^ i * (N / 4294967296 ^ i) + N % 4294967296 ^ i) * f := by rw [h0]
        _ = _ := by rw [Nat.add_mul, Nat.mul_comm (4294967296 ^ i), Nat.mul_right_comm]; omega
    rw [e, Nat.add_mul_div_right _ _ hp]; omega
  constructor
  · show _ = N * f / 4294967296 ^ i % 4294967296
    rw [hq]; unfold dg
    generalize N / 4294967296 ^ i = q
    rw [Nat.add_mod, Nat.mul_mod, Nat.mod_mod, ← Nat.mul_mod, ← Nat.add_mod]
  · show _ = N % 4294967296 ^ (i + 1) * f / 4294967296 ^ (i + 1)
    rw [Nat.mod_pow_succ, Nat.pow_succ, ← Nat.div_div_eq_div_mul]
    congr 1
    unfold car dg
    generalize N / 4294967296 ^ i % 4294967296 = d
    rw [Nat.add_mul, Nat.mul_assoc, Nat.mul_comm (4294967296 ^ i) (d * f), Nat.add_mul_div_right _ _ hp, Nat.add_comm]

/-- Adding 1: as long as all digits below i are the greatest. -/
theorem inc_low (N i j : Nat) (h : (N + 1) % 4294967296 ^ i = 0) (hj : j < i) : dg (N + 1) j = 0 := by
  unfold dg
  obtain ⟨m, hm⟩ := Nat.dvd_of_mod_eq_zero h
  obtain ⟨k, rfl⟩ : ∃ k, i = j + 1 + k := ⟨i - j - 1, by omega⟩
  rw [hm, show 4294967296 ^ (j + 1 + k) * m = 4294967296 ^ j * (4294967296 * (4294967296 ^ k * m)) by rw [Nat.pow_add, Nat.pow_succ]; simp only [Nat.mul_assoc], Nat.mul_div_cancel_left _ (pw_pos j), Nat.mul_mod_right]
theorem inc_div (N i : Nat) (h : (N + 1) % 4294967296 ^ i = 0) : (N + 1) / 4294967296 ^ i = N / 4294967296 ^ i + 1 := by
  obtain ⟨m, hm⟩ := Nat.dvd_of_mod_eq_zero h
  have hp := pw_pos i
  have hm0 : 0 < m := by
    rcases Nat.eq_zero_or_pos m with h0 | h0
    · rw [h0, Nat.mul_zero] at hm; omega
    · exact h0
  obtain ⟨k, rfl⟩ : ∃ k, m = k + 1 := ⟨m - 1, by omega⟩
  rw [hm, Nat.mul_div_cancel_left _ hp]
  have e : N = 4294967296 ^ i * k + (4294967296 ^ i - 1) := by rw [Nat.mul_succ] at hm; omega
  rw [e, Nat.mul_add_div hp, Nat.div_eq_of_lt (by omega)]
theorem inc_dg (N i : Nat) (h : (N + 1) % 4294967296 ^ i = 0) : dg (N + 1) i = (dg N i + 1) % 4294967296 := by
  unfold dg; rw [inc_div N i h]; omega
theorem inc_next (N i : Nat) (h : (N + 1) % 4294967296 ^ i = 0) (hz : dg (N + 1) i = 0) : (N + 1) % 4294967296 ^ (i + 1) = 0 := by
  rw [Nat.mod_pow_succ, h]; unfold dg at hz; rw [hz]; simp
theorem inc_high (N i j : Nat) (h : (N + 1) % 4294967296 ^ i = 0) (hz : dg (N + 1) i ≠ 0) (hj : i < j) : dg (N + 1) j = dg N j := by
  have e := inc_div N i h
  have ed := inc_dg N i h
  obtain ⟨k, rfl⟩ : ∃ k, j = i + (1 + k) := ⟨j - i - 1, by omega⟩
  unfold dg at hz ed ⊢
  rw [Nat.pow_add, ← Nat.div_div_eq_div_mul, ← Nat.div_div_eq_div_mul, e, Nat.pow_add, ← Nat.div_div_eq_div_mul, ← Nat.div_div_eq_div_mul, Nat.pow_one]
  rw [e] at hz
  have : (N / 4294967296 ^ i + 1) / 4294967296 = N / 4294967296 ^ i / 4294967296 := by omega
  rw [this]

/-- All digits below L are 0 exactly if the number is a multiple of 2^(32 L). -/
theorem dg_zero (N L : Nat) : (∀ i, i < L → dg N i = 0) ↔ N % 4294967296 ^ L = 0 := by
  induction L with
  | zero => simp [Nat.mod_one]
  | succ L ih =>
    rw [Nat.mod_pow_succ]
    constructor
    · intro h
      have h1 := ih.1 (fun i hi => h i (by omega))
      have h2 := h L (by omega)
      unfold dg at h2
      rw [h1, h2]; simp
    · intro h i hi
      have hp := pw_pos L
      have hd := Nat.mod_lt (N / 4294967296 ^ L) (show 0 < 4294967296 by omega)
      have hz : 4294967296 ^ L * (N / 4294967296 ^ L % 4294967296) = 0 := by omega
      have hz' : N / 4294967296 ^ L % 4294967296 = 0 := by
        rcases Nat.mul_eq_zero.1 hz with h0 | h0
        · omega
        · exact h0
      by_cases e : i = L
      · subst e; exact hz'
      · exact ih.2 (by omega) i (by omega)
theorem dg_off (N o i : Nat) : dg N (o + i) = dg (N / 4294967296 ^ o) i := by
  unfold dg; rw [Nat.pow_add, Nat.div_div_eq_div_mul]
theorem dg_mod (N L i : Nat) (h : i < L) : dg (N % 4294967296 ^ L) i = dg N i := by
  unfold dg
  obtain ⟨k, rfl⟩ : ∃ k, L = i + (1 + k) := ⟨L - i - 1, by omega⟩
  rw [Nat.pow_add, Nat.mod_mul_right_div_self, Nat.pow_add, Nat.pow_one, Nat.mod_mul_right_mod]

end Go.Proofs.YtabnpidmhmebfaaDoor
