/-
  Mathematics of LongKnown: the greatest long integer, 5400 digits 9.
-/
import Derived.Test.YthhbnhdejbpjiaaDoorLhH
import Derived.Lib.Repeat
namespace Go.Proofs.YthhbnhdejbpjiaaDoor
open Go.RowKit

/-- n characters 9. -/
def nn (n : Nat) : List UInt8 := List.replicate n 57
theorem nn_len (n : Nat) : (nn n).length = n := List.length_replicate
theorem nn_succ (n : Nat) : nn n ++ [57] = nn (n + 1) := by unfold nn; rw [List.replicate_succ']
theorem nn_isd (n : Nat) : ∀ c ∈ nn n, isd c := fun c h => by
  unfold nn at h
  rw [List.eq_of_mem_replicate h]
  unfold isd; decide
theorem dn_nn (n : Nat) : dn (nn n) = 10 ^ n - 1 := by
  induction n with
  | zero => rfl
  | succ n ih =>
    rw [← nn_succ, dn_snoc, ih, Int.pow_succ]
    have : ((57 : UInt8).toNat : Int) = 57 := rfl
    omega
theorem nn_pos {n : Nat} (h : 0 < n) : isPos (nn n) = true := by
  obtain ⟨m, rfl⟩ : ∃ m, n = m + 1 := ⟨n - 1, by omega⟩
  have e : nn (m + 1) = 57 :: nn m := by unfold nn; rw [List.replicate_succ]
  have hd := nn_isd m
  rw [e]
  unfold isPos
  simp only [Bool.and_eq_true, List.all_eq_true, decide_eq_true_eq]
  refine ⟨fun d h => ?_, by simp, by rfl⟩
  rcases List.mem_cons.1 h with rfl | h
  · decide
  · exact hd d h
theorem pt_nn {n : Nat} (h0 : 0 < n) (h : n ≤ 5400) : PText (nn n) (10 ^ n - 1) := .inr (.inr ⟨nn_pos h0, by rw [nn_len]; exact h, (dn_nn n).symm⟩)
theorem pt_mnn {n : Nat} (h0 : 0 < n) (h : n ≤ 5400) : PText (45 :: nn n) (-(10 ^ n - 1)) := .inr (.inl ⟨nn n, rfl, nn_pos h0, by rw [nn_len]; exact h, by rw [dn_nn]⟩)
theorem nn_x (n : Nat) : isPos (nn n ++ [120]) = false := by
  refine isPos_no (k := n) (by rw [List.length_append, nn_len]; simp) ?_
  rw [List.getD_eq_getElem?_getD, List.getElem?_append_right (by rw [nn_len]; omega), nn_len]
  simp
theorem nn_head (n : Nat) (s : List UInt8) : nn (n + 1) ++ s = 57 :: (nn n ++ s) := by unfold nn; rw [List.replicate_succ]; rfl

/-- The greatest long integer. -/
def mx : Int := 10 ^ 5400 - 1
theorem mx_e : mx + 1 = 1000000000 ^ 600 := by
  unfold mx
  rw [show (10 : Int) ^ 5400 = 1000000000 ^ 600 by rw [show 5400 = 9 * 600 from rfl, pow9_10]]
  omega
theorem mx_pos : 0 < mx := by
  have h1 := mx_e
  have h2 : (1000000000 : Int) ^ 600 = 1000000000 ^ 599 * 1000000000 := by rw [← Int.pow_succ]
  have h3 : (0 : Int) < 1000000000 ^ 599 := Int.pow_pos (by omega)
  omega
theorem mx_len : Dl mx = 600 := by
  have h1 := mx_e
  have h0 := mx_pos
  have a : Dl mx ≤ 600 := Dl_le (by omega)
  refine Nat.le_antisymm a ?_
  rcases Nat.lt_or_ge (Dl mx) 600 with h | h
  · have l := Dl_lt mx
    have := pow9_le (show Dl mx ≤ 599 by omega)
    have h2 : (1000000000 : Int) ^ 600 = 1000000000 ^ 599 * 1000000000 := by rw [← Int.pow_succ]
    have h3 : (0 : Int) < 1000000000 ^ 599 := Int.pow_pos (by omega)
    omega
  · exact h
/-- What is greater than the greatest one has more than 600 digits. -/
theorem mx_big {z : Int} (h : mx < (z.natAbs : Int)) : 600 < (dg (z.natAbs : Int)).length := by
  rcases Nat.lt_or_ge 600 (dg (z.natAbs : Int)).length with h1 | h1
  · exact h1
  · have l := (dg_len (x := (z.natAbs : Int)) (by omega) 600).1 h1
    have := mx_e
    omega
theorem mx_rt : rt mx = 10 ^ 2700 - 1 := by
  have h0 := mx_pos
  have hp : (0 : Int) < 10 ^ 2700 := Int.pow_pos (by omega)
  have e : (10 : Int) ^ 5400 = 10 ^ 2700 * 10 ^ 2700 := by rw [← Int.pow_add]
  have em : mx = 10 ^ 2700 * 10 ^ 2700 - 1 := by unfold mx; rw [e]
  generalize (10 : Int) ^ 2700 = T at *
  refine rt_uniq (by omega) ?_ ?_
  · rw [em, Int.sub_mul, Int.mul_sub]; omega
  · rw [em, show T - 1 + 1 = T by omega]; omega
theorem mx_gcd : gI ((mx.natAbs : Nat) : Int) (((0 : Int).natAbs : Nat) : Int) = mx := by
  have := mx_pos
  rw [show (((0 : Int).natAbs : Nat) : Int) = 0 from rfl, show ((mx.natAbs : Nat) : Int) = mx by omega]
  exact gI_zero (by omega)
theorem pt_mx : PText (nn 5400) mx := pt_nn (by omega) (by omega)
theorem pt_mmx : PText (45 :: nn 5400) (-mx) := pt_mnn (by omega) (by omega)
theorem pt_half : PText (nn 2700) (10 ^ 2700 - 1) := pt_nn (by omega) (by omega)
theorem nines_rep (n : Nat) : Lib.repeatL [57] n = nn n := by
  unfold nn
  induction n with
  | zero => rfl
  | succ n ih => rw [List.replicate_succ, ← ih]; rfl
theorem nn5401 : nn 5401 = 57 :: nn 5400 := by unfold nn; rw [List.replicate_succ]
theorem cat_bytes (a b : ByteArray) : a ++ b = ⟨⟨a.data.toList ++ b.data.toList⟩⟩ := by
  apply ByteArray.ext
  rw [ByteArray.data_append]
  apply Array.ext'
  simp
theorem cat_nn (l : List UInt8) (c : UInt8) : (⟨⟨l⟩⟩ : ByteArray) ++ ⟨#[c]⟩ = ⟨⟨l ++ [c]⟩⟩ := by rw [cat_bytes]
end Go.Proofs.YthhbnhdejbpjiaaDoor
