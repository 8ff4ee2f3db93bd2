/-
  What a long division's window holds (plain mathematics).
-/
import Derived.Test.YthhbnhdejbpjiaaDoorLgN
namespace Go.Proofs.YthhbnhdejbpjiaaDoor
open Go.RowKit

theorem dig_of_el {l : List Int} (h : ∀ j, j < l.length → 0 ≤ el l j ∧ el l j < 1000000000) : Dg l := fun d hd => by
  obtain ⟨i, hi, rfl⟩ := List.getElem_of_mem hd
  have := h i hi
  rw [el_eq, List.getD_eq_getElem?_getD, List.getElem?_eq_getElem hi] at this
  exact this
theorem vl_zero_el {l : List Int} (h : Dg l) (hv : vl l = 0) (j : Nat) : el l j = 0 := by
  induction l generalizing j with
  | nil => rfl
  | cons d l ih =>
    have h1 := h d (List.mem_cons_self ..)
    have h2 : Dg l := fun x hx => h x (List.mem_cons_of_mem _ hx)
    have h3 := vl_nonneg h2
    have e : vl (d :: l) = d + 1000000000 * vl l := rfl
    cases j with
    | zero => show d = 0; omega
    | succ j => show el l j = 0; exact ih h2 (by omega) j
theorem high_zero {l : List Int} {m : Nat} (h : Dg l) (hv : vl l < 1000000000 ^ m) (j : Nat) (hj : m ≤ j) : el l j = 0 := by
  have e := (val_drop (B := 1000000000) (by omega) h m).1
  rw [Int.ediv_eq_zero_of_lt (vl_nonneg h) hv] at e
  have := vl_zero_el (h.drop m) e (j - m)
  rw [el_drop, show m + (j - m) = j by omega] at this
  exact this
theorem drop_zero_el {T : List Int} {k : Nat} (hz : ∀ j, k ≤ j → el T j = 0) : vl (T.drop k) = 0 := by
  have : T.drop k = List.replicate (T.length - k) 0 := by
    apply List.ext_getElem
    · simp
    · intro i h1 h2
      have := hz (k + i) (by omega)
      simp at h1
      simpa [el, List.getD_eq_getElem?_getD, List.getElem?_eq_getElem (show k + i < T.length by omega)] using this
  rw [this]; exact val_zeros _ _
/-- The window: its lower digits, and the one above them. -/
theorem win {T : List Int} {p m : Nat} (hp : p + m < T.length) (hd : ∀ j, p ≤ j → j < p + m → 0 ≤ el T j ∧ el T j < 1000000000) (hz : ∀ j, p + m < j → el T j = 0) :
    ∃ low, 0 ≤ low ∧ low < 1000000000 ^ m ∧ vl (T.drop p) = low + 1000000000 ^ m * el T (p + m) := by
  have e := val_cut' 1000000000 (T.drop p) m (by simp; omega)
  rw [List.drop_drop, val_drop_pred _ _ _ hp] at e
  have z : val 1000000000 (T.drop (p + m + 1)) = 0 := drop_zero_el (fun j hj => hz j (by omega))
  rw [z, ← el_eq, Int.mul_zero, Int.add_zero] at e
  have dlow : Dg ((T.drop p).take m) := dig_of_el fun j hj => by
    simp at hj
    rw [el_take (by omega), el_drop]; exact hd (p + j) (by omega) (by omega)
  have h1 := vl_nonneg dlow
  have h2 := vl_lt dlow
  rw [List.length_take, List.length_drop, Nat.min_eq_left (by omega)] at h2
  exact ⟨_, h1, h2, e⟩
theorem same_low {T T' : List Int} {p : Nat} (hl : T'.length = T.length) (hp : p ≤ T.length) (h : ∀ j, j < p → el T' j = el T j) : vl T' - vl T = 1000000000 ^ p * (vl (T'.drop p) - vl (T.drop p)) := by
  have e1 := val_cut' 1000000000 T' p (by omega)
  have e2 := val_cut' 1000000000 T p hp
  have e3 : T'.take p = T.take p := by
    apply List.ext_getElem
    · simp [hl]
    · intro i h1 h2
      simp at h1 h2
      have := h i (by omega)
      simpa [el, List.getD_eq_getElem?_getD, List.getElem?_eq_getElem (show i < T.length by omega), List.getElem?_eq_getElem (show i < T'.length by omega)] using this
  rw [e3] at e1
  show val 1000000000 T' - val 1000000000 T = 1000000000 ^ p * (val 1000000000 (T'.drop p) - val 1000000000 (T.drop p))
  rw [Int.mul_sub]; omega
/-- What a change of the whole by a multiple of a place's power is to the digits from that place on. -/
theorem drop_change {T T' : List Int} {p : Nat} {c : Int} (hl : T'.length = T.length) (hp : p ≤ T.length) (h : ∀ j, j < p → el T' j = el T j) (hv : vl T' = vl T + 1000000000 ^ p * c) : vl (T'.drop p) = vl (T.drop p) + c := by
  have e := same_low hl hp h
  have h0 := pow9 p
  have : 1000000000 ^ p * (vl (T'.drop p) - vl (T.drop p)) = 1000000000 ^ p * c := by omega
  have := Int.eq_of_mul_eq_mul_left (by omega) this
  omega
/-- The last three digits, the last two. -/
theorem last3 {W : List Int} {m : Nat} (hW : W.length = m + 3) : vl W = ((el W (m + 2) * 1000000000 + el W (m + 1)) * 1000000000 + el W m) * 1000000000 ^ m + vl (W.take m) := by
  have e := val_cut' 1000000000 W m (by omega)
  rw [val_drop_pred _ _ _ (by omega), val_drop_pred _ _ _ (by omega), val_drop_pred _ _ _ (by omega), List.drop_eq_nil_of_le (by omega), ← el_eq, ← el_eq, ← el_eq, val_nil] at e
  show val _ W = _
  rw [e]
  generalize (1000000000 : Int) ^ m = P
  grind
theorem last2 {W : List Int} {m : Nat} (hW : W.length = m + 2) : vl W = (el W (m + 1) * 1000000000 + el W m) * 1000000000 ^ m + vl (W.take m) := by
  have e := val_cut' 1000000000 W m (by omega)
  rw [val_drop_pred _ _ _ (by omega), val_drop_pred _ _ _ (by omega), List.drop_eq_nil_of_le (by omega), ← el_eq, ← el_eq, val_nil] at e
  show val _ W = _
  rw [e]
  generalize (1000000000 : Int) ^ m = P
  grind
/-- The estimate, of digits. -/
theorem estimate_dig {W b : List Int} (dW : Dg W) (db : Dg b) (nb : Nrm b) (lb : 2 ≤ b.length) (hW : W.length = b.length + 1) (hlt : vl W < 1000000000 * vl b) :
    let q := ((el W b.length * 1000000000 + el W (b.length - 1)) * 1000000000 + el W (b.length - 2)) / (el b (b.length - 1) * 1000000000 + el b (b.length - 2))
    vl W / vl b ≤ q ∧ q ≤ vl W / vl b + 1 ∧ 0 ≤ vl W / vl b ∧ vl W / vl b < 1000000000 := by
  obtain ⟨m, hm⟩ : ∃ m, b.length = m + 2 := ⟨b.length - 2, by omega⟩
  rw [hm] at hW ⊢
  rw [show m + 2 - 1 = m + 1 by omega, show m + 2 - 2 = m by omega]
  have e1 := last3 hW
  have e2 := last2 hm
  have d1 := dW.el (by omega) (m + 2)
  have d2 := dW.el (by omega) (m + 1)
  have d3 := dW.el (by omega) m
  have d4 := db.el (by omega) (m + 1)
  have d5 := db.el (by omega) m
  have n1 : el b (m + 1) ≠ 0 := by
    rcases nb with h | h
    · rw [h] at hm; simp at hm
    · rw [hm] at h; exact h
  have h1 := vl_nonneg (dW.take m)
  have h2 := vl_lt (dW.take m)
  have h3 := vl_nonneg (db.take m)
  have h4 := vl_lt (db.take m)
  rw [List.length_take, Nat.min_eq_left (by omega)] at h2 h4
  exact estimate_math (pow9 m) e1 e2 h1 h2 h3 h4 (by omega) (by omega) hlt
/-- What is taken off too much, by the digit above the window. -/
theorem digit_sign {n y d low top P : Int} (hy : 0 < y) (hyP : y < P) (h : n - d * y = low + P * top) (l0 : 0 ≤ low) (l1 : low < P) (d0 : n / y ≤ d) (d1 : d ≤ n / y + 1) :
    (0 ≤ top → d = n / y ∧ top = 0 ∧ n - d * y = n % y) ∧ (top < 0 → d = n / y + 1) := by
  have e := Int.mul_ediv_add_emod n y
  have r0 := Int.emod_nonneg n (show y ≠ 0 by omega)
  have r1 := Int.emod_lt_of_pos n hy
  generalize n % y = r at *
  generalize n / y = q at *
  rcases (by omega : d = q ∨ d = q + 1) with rfl | rfl
  · have h2 : r = low + P * top := by rw [← h]; rw [Int.mul_comm d y]; omega
    refine ⟨fun ht => ⟨rfl, ?_, by rw [Int.mul_comm d y]; omega⟩, fun ht => ?_⟩
    · rcases (by omega : top = 0 ∨ 1 ≤ top) with h | h
      · exact h
      · have := Int.mul_le_mul_of_nonneg_left h (show 0 ≤ P by omega); omega
    · have := Int.mul_le_mul_of_nonneg_left (show top ≤ -1 by omega) (show 0 ≤ P by omega); omega
  · refine ⟨fun ht => ?_, fun _ => rfl⟩
    have := Int.mul_nonneg (show 0 ≤ P by omega) ht
    rw [Int.add_mul, Int.one_mul, Int.mul_comm q y] at h
    omega
end Go.Proofs.YthhbnhdejbpjiaaDoor
