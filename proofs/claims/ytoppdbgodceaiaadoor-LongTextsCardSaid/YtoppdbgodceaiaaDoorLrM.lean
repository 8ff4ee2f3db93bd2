/-
  What the reference's arithmetic comes to (plain mathematics).
-/
import Derived.Test.YtoppdbgodceaiaaDoorLgT
import Derived.Test.YtoppdbgodceaiaaDoorLgR
import Derived.Test.YtoppdbgodceaiaaDoorLgN
namespace Go.Proofs.YtoppdbgodceaiaaDoor
open Go.RowKit

/-- The top two digits of a number. -/
theorem two_top {r : Int} (hr : 0 ≤ r) {m : Nat} (hm : 1 ≤ m) (hl : r < 1000000000 ^ (m + 1)) : el (dg r) m * 1000000000 + el (dg r) (m - 1) = r / 1000000000 ^ (m - 1) := by
  have h1 := div_step r hr (m - 1)
  rw [show m - 1 + 1 = m by omega] at h1
  have h2 : r / 1000000000 ^ m < 1000000000 := by
    refine Int.ediv_lt_of_lt_mul (pow9 m) ?_
    rw [Int.pow_succ, Int.mul_comm] at hl; exact hl
  have h3 : 0 ≤ r / 1000000000 ^ m := Int.ediv_nonneg hr (by have := pow9 m; omega)
  have h4 : el (dg r) m = r / 1000000000 ^ m := by rw [el_dg r hr m]; exact Int.emod_eq_of_lt h3 h2
  rw [h4, h1]; omega
theorem one_top {y : Int} (y0 : 0 < y) : el (dg y) ((dg y).length - 1) = y / 1000000000 ^ ((dg y).length - 1) := by
  have hl := dg_len_pos y0
  have h2 := dg_lt (x := y) (by omega)
  obtain ⟨m, hm⟩ : ∃ m, (dg y).length = m + 1 := ⟨(dg y).length - 1, by omega⟩
  rw [hm] at h2 ⊢
  rw [Nat.add_sub_cancel, el_dg y (by omega) m]
  refine Int.emod_eq_of_lt (Int.ediv_nonneg (by omega) (by have := pow9 m; omega)) (Int.ediv_lt_of_lt_mul (pow9 m) ?_)
  rw [Int.pow_succ, Int.mul_comm] at h2; exact h2
/-- So often at least, by the highest digits. -/
theorem often {r y : Int} {m : Nat} (hm : m = (dg y).length) (y0 : 0 < y) (hr : r < y * 1000000000) (ry : y ≤ r) {k : Int} (hk : (el (dg r) m * 1000000000 + el (dg r) (m - 1)) / (el (dg y) (m - 1) + 1) = k) :
    0 ≤ k ∧ k < 1000000000 ∧ k * y ≤ r := by
  have hm1 : 1 ≤ m := by rw [hm]; exact dg_len_pos y0
  have hy := dg_lt (x := y) (by omega)
  rw [← hm] at hy
  have e2 := one_top y0
  rw [← hm] at e2
  have hl : r < 1000000000 ^ (m + 1) := by rw [Int.pow_succ]; omega
  rw [two_top (by omega) hm1 hl, e2] at hk
  have hP := pow9 (m - 1)
  generalize (1000000000 : Int) ^ (m - 1) = P at *
  have d0 : 0 ≤ y / P := Int.ediv_nonneg (by omega) (by omega)
  have d1 := Int.lt_ediv_add_one_mul_self y hP
  have t1 := Int.ediv_mul_le r (show P ≠ 0 by omega)
  have t0 : 0 ≤ r / P := Int.ediv_nonneg (by omega) (by omega)
  generalize y / P = d at *
  have t2 : r / P < 1000000000 * (d + 1) := by
    refine Int.ediv_lt_of_lt_mul hP ?_
    have : 1000000000 * (d + 1) * P = (d + 1) * P * 1000000000 := by grind
    omega
  generalize r / P = t at *
  have k1 := Int.ediv_mul_le t (show d + 1 ≠ 0 by omega)
  have k0 : 0 ≤ t / (d + 1) := Int.ediv_nonneg t0 (by omega)
  have k2 := Int.ediv_lt_of_lt_mul (show 0 < d + 1 by omega) t2
  rw [hk] at k0 k1 k2
  refine ⟨k0, k2, ?_⟩
  have h1 := Int.mul_le_mul_of_nonneg_left (show y ≤ (d + 1) * P by omega) k0
  have h2 := Int.mul_le_mul_of_nonneg_right k1 (show 0 ≤ P by omega)
  have h3 : k * ((d + 1) * P) = k * (d + 1) * P := by grind
  omega
theorem tk_step {V e r k b P c x S : Int} (h : V + c * P = r - k * S) (hx : x = e - b * k + c) : V + P * (x % 1000000000 - e) + x / 1000000000 * (P * 1000000000) = r - k * (S + P * b) := by
  have q := Int.mul_ediv_add_emod x 1000000000
  generalize x / 1000000000 = u at *
  generalize x % 1000000000 = v at *
  have : v = e - b * k + c - 1000000000 * u := by omega
  subst this
  have hV : V = r - k * S - c * P := by omega
  subst hV
  grind
theorem tk_end {V r c P : Int} (h : V + c * P = r) (V0 : 0 ≤ V) (V1 : V < P) (r0 : 0 ≤ r) (r1 : r < P) : V = r := by
  rcases (by omega : c ≤ -1 ∨ c = 0 ∨ 1 ≤ c) with h1 | rfl | h1
  · have := Int.mul_le_mul_of_nonneg_right h1 (show 0 ≤ P by omega); omega
  · omega
  · have := Int.mul_le_mul_of_nonneg_right h1 (show 0 ≤ P by omega); omega
theorem parts_step {X d y : Int} (y0 : 0 < y) : (X % y * 1000000000 + d) % y = (X * 1000000000 + d) % y ∧ (X * 1000000000 + d) / y = X / y * 1000000000 + (X % y * 1000000000 + d) / y := by
  have e := Int.mul_ediv_add_emod X y
  have e2 : X * 1000000000 + d = X % y * 1000000000 + d + y * (X / y * 1000000000) := by
    have : X * 1000000000 = (y * (X / y) + X % y) * 1000000000 := by rw [e]
    rw [this]; grind
  rw [e2, Int.add_mul_emod_self_left, Int.add_mul_ediv_left _ _ (by omega)]
  exact ⟨rfl, by omega⟩
theorem parts_lt {R d y : Int} (r0 : 0 ≤ R) (r1 : R < y) (d0 : 0 ≤ d) (d1 : d < 1000000000) : 0 ≤ R * 1000000000 + d ∧ R * 1000000000 + d < y * 1000000000 ∧ 0 ≤ (R * 1000000000 + d) / y ∧ (R * 1000000000 + d) / y < 1000000000 := by
  refine ⟨by omega, by omega, Int.ediv_nonneg (by omega) (by omega), Int.ediv_lt_of_lt_mul (by omega) (by omega)⟩
theorem vl_cons (d : Int) (l : List Int) : vl (d :: l) = d + 1000000000 * vl l := rfl
theorem vl_drop_set (l : List Int) (i : Nat) (x : Int) (hi : i < l.length) : vl ((l.set i x).drop i) = x + 1000000000 * vl (l.drop (i + 1)) := by
  have h := val_drop_pred 1000000000 (l.set i x) i (by simpa using hi)
  have e : (l.set i x).drop (i + 1) = l.drop (i + 1) := by rw [List.drop_set_of_lt (by omega)]
  show val _ _ = _
  rw [h, e]; simp [hi]
/-- The products so far: rows before i, and in row i the places before k. -/
def pp (a b : List Int) (i k : Nat) : Int := vl (a.take i) * vl b + 1000000000 ^ i * (el a i * vl (b.take k))
theorem pp_succ (a b : List Int) (i k : Nat) : pp a b i (k + 1) = pp a b i k + 1000000000 ^ (i + k) * (el a i * el b k) := by
  unfold pp
  rw [val_take_succ_el b k, Int.pow_add]
  grind
theorem pp_next (a b : List Int) (i k : Nat) (hk : b.length ≤ k) : pp a b i k = pp a b (i + 1) 0 := by
  unfold pp
  rw [val_take_succ_el a i, List.take_of_length_le hk, List.take_zero]
  show _ = _ + _ * (_ * 0)
  grind
theorem vl_take_le {b : List Int} (db : Dg b) (k : Nat) : vl (b.take k) ≤ vl b := by
  have e : vl b = vl (b.take k) + 1000000000 ^ (b.take k).length * vl (b.drop k) := val_cut 1000000000 b k
  have h := vl_nonneg (db.drop k)
  have := Int.mul_nonneg (show (0 : Int) ≤ 1000000000 ^ (b.take k).length by have := pow9 (b.take k).length; omega) h
  omega
theorem pp_lt {a b : List Int} (da : Dg a) (db : Dg b) {i : Nat} (k : Nat) (hi : i < a.length) : 0 ≤ pp a b i k ∧ pp a b i k < 1000000000 ^ (a.length + b.length) := by
  have t0 := vl_nonneg (da.take i)
  have b0 := vl_nonneg db
  have e0 := da.el (by omega) i
  have bk := vl_take_le db k
  have bk0 := vl_nonneg (db.take k)
  have hp := pow9 i
  have h1 := Int.mul_nonneg t0 b0
  have h2 := Int.mul_nonneg e0.1 bk0
  have h3 := Int.mul_nonneg (show (0 : Int) ≤ 1000000000 ^ i by omega) h2
  refine ⟨by unfold pp; omega, ?_⟩
  have h4 := Int.mul_le_mul_of_nonneg_left bk e0.1
  have h5 := Int.mul_le_mul_of_nonneg_left h4 (show (0 : Int) ≤ 1000000000 ^ i by omega)
  have h6 : pp a b i k ≤ vl (a.take (i + 1)) * vl b := by
    unfold pp
    rw [val_take_succ_el a i]
    have : (vl (a.take i) + 1000000000 ^ i * el a i) * vl b = vl (a.take i) * vl b + 1000000000 ^ i * (el a i * vl b) := by grind
    omega
  have h7 := vl_lt (da.take (i + 1))
  rw [List.length_take, Nat.min_eq_left (by omega)] at h7
  have h8 := vl_lt db
  have g1 := Int.mul_le_mul_of_nonneg_right (show vl (a.take (i + 1)) ≤ 1000000000 ^ (i + 1) by omega) b0
  have g2 : (1000000000 : Int) ^ (i + 1) * vl b < 1000000000 ^ (i + 1) * 1000000000 ^ b.length := Int.mul_lt_mul_of_pos_left h8 (pow9 _)
  rw [← Int.pow_add] at g2
  have g3 := pow9_le (show i + 1 + b.length ≤ a.length + b.length by omega)
  omega
theorem pp_end (a b : List Int) (i : Nat) (hi : a.length ≤ i) : pp a b i 0 = vl a * vl b := by
  unfold pp
  rw [List.take_of_length_le hi, List.take_zero]
  show _ + _ * (_ * 0) = _
  grind
theorem place_lt {V n T : Int} {j N : Nat} (h : V + n * 1000000000 ^ j = T) (V0 : 0 ≤ V) (n1 : 1 ≤ n) (T1 : T < 1000000000 ^ N) : j < N := by
  rcases Nat.lt_or_ge j N with h' | h'
  · exact h'
  · have := pow9_le h'
    have := Int.mul_le_mul_of_nonneg_right n1 (show (0 : Int) ≤ 1000000000 ^ j by have := pow9 j; omega)
    omega
theorem carry_step (V n e P : Int) : V + P * ((n + e) % 1000000000 - e) + (n + e) / 1000000000 * (P * 1000000000) = V + n * P := by
  have q := Int.mul_ediv_add_emod (n + e) 1000000000
  generalize (n + e) / 1000000000 = u at *
  generalize (n + e) % 1000000000 = v at *
  have : v = n + e - 1000000000 * u := by omega
  subst this
  grind
end Go.Proofs.YtoppdbgodceaiaaDoor
