/-
  Products of lists of digits by columns, and the steps of a long division (plain mathematics).
-/
import Derived.Test.YthhbnhdejbpjiaaDoorLgM
namespace Go.Proofs.YthhbnhdejbpjiaaDoor
open Go.RowKit

/-- The sum of the products of the digits that belong to a place. -/
def col : List Int → List Int → Nat → Int
  | [], _, _ => 0
  | d :: _, b, 0 => d * el b 0
  | d :: a, b, p + 1 => d * el b (p + 1) + col a b p
theorem col_succ (d : Int) (a b : List Int) (p : Nat) : col (d :: a) b (p + 1) = d * el b (p + 1) + col a b p := rfl
theorem col_take_succ (a b : List Int) (p i : Nat) (hi : i < a.length) (hp : i ≤ p) : col (a.take (i + 1)) b p = col (a.take i) b p + el a i * el b (p - i) := by
  induction a generalizing p i with
  | nil => simp at hi
  | cons d a ih =>
    cases i with
    | zero =>
      rw [List.take_succ_cons, List.take_zero, List.take_zero]
      cases p with
      | zero => simp [col, el]
      | succ p => simp [col, el]
    | succ i =>
      cases p with
      | zero => omega
      | succ p =>
        rw [List.take_succ_cons, List.take_succ_cons, col_succ, col_succ, ih p i (by simpa using hi) (by omega)]
        have : el (d :: a) (i + 1) = el a i := by simp [el]
        rw [this, show p + 1 - (i + 1) = p - i by omega]; omega
theorem col_low (a b : List Int) (p i : Nat) (h : i + b.length ≤ p + 1) : col (a.take i) b p = 0 := by
  induction a generalizing p i with
  | nil => simp [col]
  | cons d a ih =>
    cases i with
    | zero => rfl
    | succ i =>
      cases p with
      | zero =>
        have : b.length = 0 := by omega
        rw [List.take_succ_cons]; simp [col, el_out (l := b) (i := 0) (by omega)]
      | succ p => rw [List.take_succ_cons, col_succ, ih p i (by omega), el_out (by omega)]; simp
theorem col_high (a b : List Int) (p i : Nat) (h : p < i ∨ a.length ≤ i) : col (a.take i) b p = col a b p := by
  induction a generalizing p i with
  | nil => simp
  | cons d a ih =>
    cases i with
    | zero => simp at h
    | succ i =>
      rw [List.take_succ_cons]
      cases p with
      | zero => rfl
      | succ p => rw [col_succ, col_succ, ih p i (by simp at h; omega)]
/-- The sum of the columns before a place, each at its place. -/
def cs (a b : List Int) : Nat → Int
  | 0 => 0
  | n + 1 => cs a b n + 1000000000 ^ n * col a b n
theorem cs_nil (b : List Int) (n : Nat) : cs [] b n = 0 := by
  induction n with
  | zero => rfl
  | succ n ih => simp [cs, ih, col]
theorem val_take_succ_el (b : List Int) (n : Nat) : vl (b.take (n + 1)) = vl (b.take n) + 1000000000 ^ n * el b n := by
  by_cases h : n < b.length
  · exact val_take_succ _ _ _ h
  · rw [el_out (by omega), List.take_of_length_le (by omega), List.take_of_length_le (by omega)]; omega
theorem cs_cons (d : Int) (a b : List Int) (n : Nat) : cs (d :: a) b (n + 1) = d * vl (b.take (n + 1)) + 1000000000 * cs a b n := by
  induction n with
  | zero =>
    rw [val_take_succ_el]
    simp [cs, col, vl, val]
  | succ n ih =>
    rw [cs, ih, val_take_succ_el b (n + 1), col_succ, cs, Int.pow_succ]
    generalize vl (b.take (n + 1)) = X
    generalize cs a b n = Y
    generalize col a b n = Z
    generalize el b (n + 1) = U
    generalize (1000000000 : Int) ^ n = P
    grind
theorem cs_all (a b : List Int) (n : Nat) (h : a.length + b.length ≤ n) : cs a b n = vl a * vl b := by
  induction a generalizing n with
  | nil => rw [cs_nil]; simp [vl, val]
  | cons d a ih =>
    cases n with
    | zero => simp at h
    | succ n =>
      rw [cs_cons, ih n (by simp at h; omega), List.take_of_length_le (by simp at h; omega)]
      show _ = (d + 1000000000 * vl a) * vl b
      grind
/-- Two digits' product. -/
theorem mul_dig {p q : Int} (hp : 0 ≤ p ∧ p < 1000000000) (hq : 0 ≤ q ∧ q < 1000000000) : 0 ≤ p * q ∧ p * q ≤ 999999998000000001 :=
  ⟨Int.mul_nonneg hp.1 hq.1, by have := Int.mul_le_mul (show p ≤ 999999999 by omega) (show q ≤ 999999999 by omega) hq.1 (by omega : (0 : Int) ≤ 999999999); omega⟩

/-- The estimate of a quotient by the first three digits and the first two. -/
theorem estimate_math {n y T D nl yl P : Int} (hP : 0 < P) (hn : n = T * P + nl) (hy : y = D * P + yl) (n0 : 0 ≤ nl) (n1 : nl < P) (y0 : 0 ≤ yl) (y1 : yl < P)
    (hD : 1000000000 ≤ D) (hT : 0 ≤ T) (hlt : n < 1000000000 * y) : n / y ≤ T / D ∧ T / D ≤ n / y + 1 ∧ 0 ≤ n / y ∧ n / y < 1000000000 := by
  have hDP : 1000000000 * P ≤ D * P := Int.mul_le_mul_of_nonneg_right hD (by omega)
  have hTP : 0 ≤ T * P := Int.mul_nonneg hT (by omega)
  have hy0 : 0 < y := by omega
  have hq0 : 0 ≤ n / y := Int.ediv_nonneg (by omega) (by omega)
  have hq1 : n / y < 1000000000 := Int.ediv_lt_of_lt_mul hy0 (by omega)
  have hqy : n / y * y ≤ n := Int.ediv_mul_le n (by omega)
  refine ⟨?_, ?_, hq0, hq1⟩
  · refine (Int.le_ediv_iff_mul_le (by omega)).2 ?_
    generalize n / y = q at *
    have h1 : q * (D * P) ≤ q * y := Int.mul_le_mul_of_nonneg_left (by omega) hq0
    have h2 : (q * D) * P < (T + 1) * P := by rw [Int.mul_assoc, Int.add_mul]; omega
    have := Int.lt_of_mul_lt_mul_right h2 (by omega)
    omega
  · have hm := Int.ediv_mul_le T (show D ≠ 0 by omega)
    have hT0 : 0 ≤ T / D := Int.ediv_nonneg hT (by omega)
    have hTB : T < 1000000000 * (D + 1) := by
      have h2 : T * P < 1000000000 * (D + 1) * P := by
        rw [Int.mul_assoc, Int.add_mul, Int.mul_add]; omega
      exact Int.lt_of_mul_lt_mul_right h2 (by omega)
    have hq : T / D ≤ 1000000000 := by
      have := Int.ediv_lt_of_lt_mul (a := T) (b := 1000000001) (c := D) (by omega) (by omega)
      omega
    generalize T / D = r at *
    by_cases hr : r = 0
    · omega
    suffices r - 1 ≤ n / y by omega
    refine (Int.le_ediv_iff_mul_le hy0).2 ?_
    have h1 : (r - 1) * y ≤ (r - 1) * (D * P + P) := Int.mul_le_mul_of_nonneg_left (by omega) (by omega)
    have h2 : (r - 1) * (D * P + P) = (r * D + r - D - 1) * P := by grind
    have h3 : (r * D + r - D - 1) * P ≤ T * P := Int.mul_le_mul_of_nonneg_right (by omega) (by omega)
    omega
end Go.Proofs.YthhbnhdejbpjiaaDoor
