/-
  Digits to the base 10^9 of a number, and what the operations of package long come to on them (plain mathematics).
-/
import Derived.Test.YthhbnhdejbpjiaaDoorSl
namespace Go.Proofs.YthhbnhdejbpjiaaDoor
open Go.RowKit

/-- The number of a list of digits to the base 10^9. -/
abbrev vl (l : List Int) : Int := val 1000000000 l
abbrev Dg (l : List Int) : Prop := Dig 1000000000 l
/-- The digits of a number. -/
def dgN (n : Nat) : List Int := if h : n = 0 then [] else ((n % 1000000000 : Nat) : Int) :: dgN (n / 1000000000)
  termination_by n
  decreasing_by omega
/-- The digits of a number that is not negative. -/
def dg (x : Int) : List Int := dgN x.toNat
/-- The last digit is not 0. -/
def Nrm (l : List Int) : Prop := l = [] ∨ el l (l.length - 1) ≠ 0

theorem dg_zero : dg 0 = [] := by unfold dg dgN; simp
theorem dg_pos {x : Int} (h : 0 < x) : dg x = x % 1000000000 :: dg (x / 1000000000) := by
  unfold dg
  rw [dgN, dif_neg (by omega)]
  congr 1
  · omega
  · congr 1; omega
theorem dg_ind {p : Int → Prop} (h0 : p 0) (h1 : ∀ x, 0 < x → p (x / 1000000000) → p x) (x : Int) (hx : 0 ≤ x) : p x := by
  obtain ⟨n, rfl⟩ : ∃ n : Nat, x = n := ⟨x.toNat, by omega⟩
  induction n using Nat.strongRecOn with
  | ind n ih =>
    by_cases h : n = 0
    · subst h; exact h0
    · refine h1 _ (by omega) ?_
      have := ih (n / 1000000000) (by omega) (by omega)
      rwa [show ((n / 1000000000 : Nat) : Int) = (n : Int) / 1000000000 by omega] at this
theorem dg_dig (x : Int) (hx : 0 ≤ x) : Dg (dg x) := by
  refine dg_ind (p := fun x => Dg (dg x)) ?_ ?_ x hx
  · rw [dg_zero]; exact Dig.nil _
  · intro x h ih; rw [dg_pos h]; exact Dig.cons (by omega) (by omega) ih
theorem dg_val (x : Int) (hx : 0 ≤ x) : vl (dg x) = x := by
  refine dg_ind (p := fun x => vl (dg x) = x) ?_ ?_ x hx
  · rw [dg_zero]; rfl
  · intro x h ih; rw [dg_pos h]; show _ + 1000000000 * vl _ = _; rw [ih]; omega
theorem nrm_tail {d : Int} {l : List Int} (h : Nrm (d :: l)) : Nrm l := by
  rcases h with h | h
  · cases h
  · by_cases hl : l = []
    · exact .inl hl
    · refine .inr ?_
      have : 0 < l.length := List.length_pos_iff.2 hl
      obtain ⟨k, hk⟩ : ∃ k, l.length = k + 1 := ⟨l.length - 1, by omega⟩
      rw [List.length_cons, hk] at h
      rw [hk]; simpa [el] using h
theorem nrm_cons {d : Int} {l : List Int} (h : Nrm l) (h0 : l = [] → d ≠ 0) : Nrm (d :: l) := by
  refine .inr ?_
  rcases h with rfl | h
  · simpa [el] using h0 rfl
  · by_cases hl : l = []
    · subst hl; simpa [el] using h0 rfl
    · have : 0 < l.length := List.length_pos_iff.2 hl
      obtain ⟨k, hk⟩ : ∃ k, l.length = k + 1 := ⟨l.length - 1, by omega⟩
      rw [List.length_cons, hk]
      rw [hk] at h; simpa [el] using h
theorem dg_nrm (x : Int) (hx : 0 ≤ x) : Nrm (dg x) := by
  refine dg_ind (p := fun x => Nrm (dg x)) ?_ ?_ x hx
  · rw [dg_zero]; exact .inl rfl
  · intro x h ih
    rw [dg_pos h]
    refine nrm_cons ih fun hn => ?_
    have := dg_val (x / 1000000000) (by omega)
    rw [hn] at this; simp only [vl, val] at this; omega
/-- A list of digits with no 0 at its end stands for a positive number. -/
theorem nrm_pos {l : List Int} (h : Dg l) (hn : Nrm l) (hl : l ≠ []) : 0 < vl l := by
  induction l with
  | nil => exact absurd rfl hl
  | cons d l ih =>
    have h1 := h d (List.mem_cons_self ..)
    have h2 := fun x hx => h x (List.mem_cons_of_mem _ hx)
    by_cases hl' : l = []
    · subst hl'
      rcases hn with h | h
      · cases h
      · simp [el] at h; simp only [vl, val]; omega
    · have := ih h2 (nrm_tail hn) hl'
      show 0 < d + 1000000000 * vl l; omega
theorem dg_of {l : List Int} (h : Dg l) (hn : Nrm l) : dg (vl l) = l := by
  induction l with
  | nil => exact dg_zero
  | cons d l ih =>
    have h1 := h d (List.mem_cons_self ..)
    have h2 := fun x hx => h x (List.mem_cons_of_mem _ hx)
    have hp := nrm_pos h hn (by simp)
    have hv := val_nonneg (B := 1000000000) (by omega) h2
    rw [dg_pos hp]
    have e : vl (d :: l) = d + 1000000000 * vl l := rfl
    rw [e, show (d + 1000000000 * vl l) % 1000000000 = d by omega, show (d + 1000000000 * vl l) / 1000000000 = vl l by omega, ih h2 (nrm_tail hn)]
theorem vl_nonneg {l : List Int} (h : Dg l) : 0 ≤ vl l := val_nonneg (by omega) h
theorem vl_lt {l : List Int} (h : Dg l) : vl l < 1000000000 ^ l.length := val_lt (by omega) h
theorem pow9 (n : Nat) : (0 : Int) < 1000000000 ^ n := Int.pow_pos (by omega)
theorem pow9_le {m n : Nat} (h : m ≤ n) : (1000000000 : Int) ^ m ≤ 1000000000 ^ n := by
  obtain ⟨k, rfl⟩ : ∃ k, n = m + k := ⟨n - m, by omega⟩
  rw [Int.pow_add]
  have := Int.mul_le_mul_of_nonneg_left (show (1 : Int) ≤ 1000000000 ^ k by have := pow9 k; omega) (show (0 : Int) ≤ 1000000000 ^ m by have := pow9 m; omega)
  omega
/-- A number with n digits is at least 10^9 to the n - 1. -/
theorem nrm_ge {l : List Int} (h : Dg l) (hn : Nrm l) (hl : l ≠ []) : 1000000000 ^ (l.length - 1) ≤ vl l := by
  have hp : 0 < l.length := List.length_pos_iff.2 hl
  have e := val_cut' 1000000000 l (l.length - 1) (by omega)
  have e2 : vl (l.drop (l.length - 1)) = el l (l.length - 1) := by
    show val 1000000000 _ = _
    rw [val_drop_pred _ _ _ (by omega), show l.length - 1 + 1 = l.length by omega, List.drop_length]; simp [val, el]
  have h0 := val_nonneg (B := 1000000000) (by omega) (h.take (l.length - 1))
  have hd := h.el (by omega) (l.length - 1)
  rcases hn with hn | hn
  · exact absurd hn hl
  · have e2' : val 1000000000 (l.drop (l.length - 1)) = el l (l.length - 1) := e2
    rw [e2'] at e
    have := Int.mul_le_mul_of_nonneg_left (show (1 : Int) ≤ el l (l.length - 1) by omega) (show (0 : Int) ≤ 1000000000 ^ (l.length - 1) by have := pow9 (l.length - 1); omega)
    show _ ≤ val 1000000000 l
    omega
theorem dg_len {x : Int} (hx : 0 ≤ x) (k : Nat) : (dg x).length ≤ k ↔ x < 1000000000 ^ k := by
  constructor
  · intro h
    have := vl_lt (dg_dig x hx)
    rw [dg_val x hx] at this
    have := pow9_le h; omega
  · intro h
    rcases Nat.lt_or_ge k (dg x).length with hk | hk
    · have := nrm_ge (dg_dig x hx) (dg_nrm x hx) (by intro hn; rw [hn] at hk; simp at hk)
      rw [dg_val x hx] at this
      have := pow9_le (show k ≤ (dg x).length - 1 by omega); omega
    · exact hk
theorem dg_len_le {x : Int} (hx : 0 ≤ x) {k : Nat} (h : x < 1000000000 ^ k) : (dg x).length ≤ k := (dg_len hx k).2 h
theorem dg_lt {x : Int} (hx : 0 ≤ x) : x < 1000000000 ^ (dg x).length := (dg_len hx _).1 (Nat.le_refl _)
theorem dg_ge {x : Int} (hx : 0 < x) : 1000000000 ^ ((dg x).length - 1) ≤ x := by
  have := nrm_ge (dg_dig x (by omega)) (dg_nrm x (by omega)) (by rw [dg_pos hx]; simp)
  rwa [dg_val x (by omega)] at this
theorem dg_nil {x : Int} (hx : 0 ≤ x) : dg x = [] ↔ x = 0 := by
  constructor
  · intro h
    have := dg_val x hx
    rw [h] at this; exact this.symm
  · rintro rfl; exact dg_zero
theorem dg_len_pos {x : Int} (hx : 0 < x) : 0 < (dg x).length := by rw [dg_pos hx]; simp
theorem dg_len_mono {x y : Int} (hx : 0 ≤ x) (h : x ≤ y) : (dg x).length ≤ (dg y).length :=
  dg_len_le hx (Int.lt_of_le_of_lt h (dg_lt (by omega)))
theorem dg_inj {x y : Int} (hx : 0 ≤ x) (hy : 0 ≤ y) (h : dg x = dg y) : x = y := by rw [← dg_val x hx, h, dg_val y hy]
/-- Cut where no digit but 0 follows, and the last that stays is not 0. -/
theorem trim_dg {l : List Int} (h : Dg l) (n : Nat) (hn : n ≤ l.length) (hz : ∀ j, n ≤ j → el l j = 0) (hl : n = 0 ∨ el l (n - 1) ≠ 0) : l.take n = dg (vl l) := by
  have e : vl l = vl (l.take n) := by
    have e := val_cut' 1000000000 l n hn
    have hz' : l.drop n = List.replicate (l.length - n) 0 := by
      apply List.ext_getElem
      · simp
      · intro i h1 h2
        have := hz (n + i) (by omega)
        simp at h1
        simpa [el, List.getD_eq_getElem?_getD, List.getElem?_eq_getElem (show n + i < l.length by omega)] using this
    rw [hz', val_zeros] at e
    show val 1000000000 l = val 1000000000 _
    omega
  rw [e, dg_of (h.take n)]
  rcases hl with rfl | hl
  · exact .inl rfl
  · by_cases h0 : n = 0
    · subst h0; exact .inl rfl
    · refine .inr ?_
      rw [List.length_take, Nat.min_eq_left hn]
      rwa [el, List.getD_eq_getElem?_getD, List.getElem?_take_of_lt (by omega), ← List.getD_eq_getElem?_getD]
/-- The digits above a place decide. -/
theorem drop_lt {a b : List Int} (ha : Dg a) (hb : Dg b) (hl : a.length = b.length) (i : Nat) (hi : i < a.length) (e : vl (a.drop (i + 1)) = vl (b.drop (i + 1))) (h : el a i < el b i) : vl a < vl b := by
  have ea := val_cut' 1000000000 a i (by omega)
  have eb := val_cut' 1000000000 b i (by omega)
  have ea2 := val_drop_pred 1000000000 a i hi
  have eb2 := val_drop_pred 1000000000 b i (by omega)
  have a1 := val_lt (B := 1000000000) (by omega) (ha.take i)
  rw [List.length_take, Nat.min_eq_left (by omega)] at a1
  have b0 := val_nonneg (B := 1000000000) (by omega) (hb.take i)
  have hp := pow9 i
  show val 1000000000 a < val 1000000000 b
  have e' : val 1000000000 (a.drop (i + 1)) = val 1000000000 (b.drop (i + 1)) := e
  rw [← el_eq] at ea2 eb2
  have : val 1000000000 (a.drop i) + 1 ≤ val 1000000000 (b.drop i) := by omega
  have := Int.mul_le_mul_of_nonneg_left this (show (0 : Int) ≤ 1000000000 ^ i by omega)
  rw [Int.mul_add] at this
  omega
theorem drop_eq {a b : List Int} (i : Nat) (hi : i < a.length) (hi2 : i < b.length) (e : vl (a.drop (i + 1)) = vl (b.drop (i + 1))) (h : el a i = el b i) : vl (a.drop i) = vl (b.drop i) := by
  show val 1000000000 _ = val 1000000000 _
  have e' : val 1000000000 (a.drop (i + 1)) = val 1000000000 (b.drop (i + 1)) := e
  rw [val_drop_pred _ _ _ hi, val_drop_pred _ _ _ hi2, ← el_eq, ← el_eq, h, e']
/-- A number with fewer digits is less. -/
theorem shorter {a b : List Int} (ha : Dg a) (hb : Dg b) (nb : Nrm b) (hl : a.length < b.length) : vl a < vl b := by
  have h1 := vl_lt ha
  have h2 := nrm_ge hb nb (by intro h; rw [h] at hl; simp at hl)
  have := pow9_le (show a.length ≤ b.length - 1 by omega); omega
theorem dg_shorter {x y : Int} (hx : 0 ≤ x) (hy : 0 ≤ y) (h : (dg x).length < (dg y).length) : x < y := by
  have := shorter (dg_dig x hx) (dg_dig y hy) (dg_nrm y hy) h
  rwa [dg_val x hx, dg_val y hy] at this
theorem dg_small {x : Int} (h0 : 0 < x) (h1 : x < 1000000000) : dg x = [x] := by
  rw [dg_pos h0, show x / 1000000000 = 0 by omega, dg_zero, show x % 1000000000 = x by omega]
theorem dg_two {x : Int} (h0 : 1000000000 ≤ x) (h1 : x < 1000000000000000000) : dg x = [x % 1000000000, x / 1000000000] := by
  rw [dg_pos (by omega), dg_small (by omega) (by omega)]
/-- A shift by places. -/
theorem dg_drop {x : Int} (hx : 0 ≤ x) (k : Nat) : (dg x).drop k = dg (x / 1000000000 ^ k) := by
  have e := (val_drop (B := 1000000000) (by omega) (dg_dig x hx) k).1
  have ev : val 1000000000 (dg x) = x := dg_val x hx
  rw [ev] at e
  rw [← e]
  refine (dg_of ((dg_dig x hx).drop k) ?_).symm
  rcases Nat.lt_or_ge k (dg x).length with h | h
  · refine .inr ?_
    rcases dg_nrm x hx with hn | hn
    · rw [hn] at h; simp at h
    · rw [List.length_drop]
      rw [el, List.getD_eq_getElem?_getD, List.getElem?_drop, show k + ((dg x).length - k - 1) = (dg x).length - 1 by omega, ← List.getD_eq_getElem?_getD]; exact hn
  · exact .inl (List.drop_eq_nil_of_le h)
theorem el_out {l : List Int} {i : Nat} (h : l.length ≤ i) : el l i = 0 := by
  simp [el, List.getD_eq_getElem?_getD, List.getElem?_eq_none h]
theorem el_take {l : List Int} {i k : Nat} (h : i < k) : el (l.take k) i = el l i := by
  simp [el, List.getD_eq_getElem?_getD, List.getElem?_take_of_lt h]
theorem el_drop (l : List Int) (i k : Nat) : el (l.drop k) i = el l (k + i) := by
  simp [el, List.getD_eq_getElem?_getD, List.getElem?_drop]
theorem el_set_eq (l : List Int) (i : Nat) (x : Int) (h : i < l.length) : el (l.set i x) i = x := by
  simp [el, List.getD_eq_getElem?_getD, h]
theorem vl_take_succ (l : List Int) (k : Nat) (hk : k < l.length) : vl (l.take (k + 1)) = vl (l.take k) + 1000000000 ^ k * el l k := val_take_succ _ _ _ hk
theorem vl_take_all {l : List Int} {k : Nat} (h : l.length ≤ k) : vl (l.take k) = vl l := by rw [List.take_of_length_le h]
end Go.Proofs.YthhbnhdejbpjiaaDoor
