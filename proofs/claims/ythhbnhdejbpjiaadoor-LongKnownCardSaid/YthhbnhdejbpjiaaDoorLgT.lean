/-
  Decimal texts of numbers by digits to the base 10^9, and back (plain mathematics).
-/
import Derived.Test.YthhbnhdejbpjiaaDoorLgM
import Derived.Lib.ItoaNum
import Derived.Lib.ItoaMem
namespace Go.Proofs.YthhbnhdejbpjiaaDoor
open Go.RowKit

theorem el_dg (x : Int) (hx : 0 ≤ x) (i : Nat) : el (dg x) i = x / 1000000000 ^ i % 1000000000 := by
  have h := dg_drop hx i
  have e : el (dg x) i = el ((dg x).drop i) 0 := by rw [el_drop]; rfl
  rw [e, h]
  have hp := pow9 i
  have h0 : 0 ≤ x / 1000000000 ^ i := Int.ediv_nonneg hx (by omega)
  by_cases hz : x / 1000000000 ^ i = 0
  · rw [hz, dg_zero]; rfl
  · rw [dg_pos (by omega)]; simp [el]
theorem div_pow_succ (x : Int) (i : Nat) : x / 1000000000 ^ (i + 1) = x / 1000000000 ^ i / 1000000000 := by
  have := pow9 i
  rw [Int.pow_succ, Int.ediv_ediv, if_neg (by omega)]; omega
theorem div_step (x : Int) (hx : 0 ≤ x) (i : Nat) : x / 1000000000 ^ i = 1000000000 * (x / 1000000000 ^ (i + 1)) + el (dg x) i := by
  rw [el_dg x hx, div_pow_succ]; omega
/-- The last decimal digits, so many of them. -/
def pd : Nat → Nat → List UInt8
  | 0, _ => []
  | k + 1, d => pd k (d / 10) ++ [UInt8.ofNat (48 + d % 10)]
theorem pd_length (k d : Nat) : (pd k d).length = k := by
  induction k generalizing d with
  | zero => rfl
  | succ k ih => simp [pd, ih]
theorem dec_pad (u : Nat) (hu : 1 ≤ u) : ∀ (k d : Nat), d < 10 ^ k → Lib.decDigits (u * 10 ^ k + d) = Lib.decDigits u ++ pd k d
  | 0, d, h => by
    have : d = 0 := by simpa using h
    subst this; simp [pd]
  | k + 1, d, h => by
    rw [Nat.pow_succ] at h ⊢
    have hp : 1 ≤ 10 ^ k := Nat.one_le_pow _ _ (by omega)
    have h1 : 10 ≤ u * (10 ^ k * 10) := by
      have := Nat.mul_le_mul hu (show 10 ≤ 10 ^ k * 10 by omega); omega
    rw [Lib.decDigits, dif_neg (by omega)]
    have e : u * (10 ^ k * 10) = u * 10 ^ k * 10 := by rw [Nat.mul_assoc]
    rw [e, show (u * 10 ^ k * 10 + d) / 10 = u * 10 ^ k + d / 10 by omega, show (u * 10 ^ k * 10 + d) % 10 = d % 10 by omega, dec_pad u hu k (d / 10) (by omega), pd, List.append_assoc]
theorem dec_one (k d : Nat) (h : d < 10 ^ k) : (Lib.decDigits (10 ^ k + d)).drop 1 = pd k d := by
  have := dec_pad 1 (Nat.le_refl _) k d h
  rw [Nat.one_mul] at this
  rw [this, Lib.decDigits_one (by omega)]; rfl
/-- The decimal text of a number that is not negative. -/
def tx (x : Int) : List UInt8 := Lib.decDigits x.toNat
theorem tx_step (u d : Int) (hu : 1 ≤ u) (d0 : 0 ≤ d) (d1 : d < 1000000000) : tx (1000000000 * u + d) = tx u ++ (Lib.itoa (1000000000 + d)).drop 1 := by
  have e1 : Lib.itoa (1000000000 + d) = Lib.decDigits (10 ^ 9 + d.toNat) := by
    rw [show 1000000000 + d = ((10 ^ 9 + d.toNat : Nat) : Int) by omega, Lib.itoa_nonneg]
  rw [e1, dec_one 9 _ (by omega)]
  unfold tx
  rw [show (1000000000 * u + d).toNat = u.toNat * 10 ^ 9 + d.toNat by omega]
  exact dec_pad _ (by omega) 9 _ (by omega)
theorem tx_itoa (x : Int) (hx : 0 ≤ x) : Lib.itoa x = tx x := by
  unfold Lib.itoa tx; rw [if_neg (by omega)]
/-- The text of a number by its sign and its size. -/
theorem itoa_sign (z : Int) : Lib.itoa z = (if z < 0 then [45] else []) ++ tx z.natAbs := by
  unfold Lib.itoa tx
  split
  · simp
  · simp; congr 1; omega
theorem itoa_pad_len (d : Int) (d0 : 0 ≤ d) (d1 : d < 1000000000) : (Lib.itoa (1000000000 + d)).length = 10 := by
  have e1 : Lib.itoa (1000000000 + d) = Lib.decDigits (10 ^ 9 + d.toNat) := by
    rw [show 1000000000 + d = ((10 ^ 9 + d.toNat : Nat) : Int) by omega, Lib.itoa_nonneg]
  have := dec_pad 1 (Nat.le_refl _) 9 d.toNat (by omega)
  rw [Nat.one_mul] at this
  rw [e1, this, Lib.decDigits_one (by omega), List.length_append, pd_length]; rfl

/-- The number that decimal digits stand for. -/
def dn (l : List UInt8) : Int := l.foldl (fun n c => 10 * n + ((c.toNat : Int) - 48)) 0
def isd (c : UInt8) : Prop := 48 ≤ c.toNat ∧ c.toNat ≤ 57
theorem dn_nil : dn [] = 0 := rfl
theorem dn_snoc (l : List UInt8) (c : UInt8) : dn (l ++ [c]) = 10 * dn l + ((c.toNat : Int) - 48) := by unfold dn; rw [List.foldl_append]; rfl
theorem dn_append (a b : List UInt8) : dn (a ++ b) = dn a * 10 ^ b.length + dn b := by
  obtain ⟨n, hn⟩ : ∃ n, b.length = n := ⟨_, rfl⟩
  induction n generalizing b with
  | zero =>
    have : b = [] := List.length_eq_zero_iff.1 hn
    subst this; simp [dn_nil]
  | succ n ih =>
    have hne : b ≠ [] := by intro h; subst h; simp at hn
    have e := (List.dropLast_concat_getLast hne).symm
    rw [e, ← List.append_assoc, dn_snoc, dn_snoc, ih b.dropLast (by simp [hn])]
    simp only [List.length_append, List.length_singleton, Int.pow_succ]
    generalize (10 : Int) ^ b.dropLast.length = P
    grind
theorem dn_bounds {l : List UInt8} (h : ∀ c ∈ l, isd c) : 0 ≤ dn l ∧ dn l < 10 ^ l.length := by
  obtain ⟨n, hn⟩ : ∃ n, l.length = n := ⟨_, rfl⟩
  induction n generalizing l with
  | zero =>
    have : l = [] := List.length_eq_zero_iff.1 hn
    subst this; simp [dn_nil]
  | succ n ih =>
    have hne : l ≠ [] := by intro h; subst h; simp at hn
    have e := (List.dropLast_concat_getLast hne).symm
    have i := ih (l := l.dropLast) (fun c hc => h c (List.dropLast_subset _ hc)) (by simp [hn])
    have hc := h (l.getLast hne) (List.getLast_mem hne)
    rw [e, dn_snoc, List.length_append, List.length_singleton, Int.pow_succ]
    unfold isd at hc
    omega
theorem dn_pos {l : List UInt8} {c : UInt8} (h : ∀ c ∈ l, isd c) (hc : isd c) (c0 : c.toNat ≠ 48) : 0 < dn (c :: l) := by
  have e := dn_append [c] l
  rw [List.singleton_append] at e
  have e1 : dn [c] = (c.toNat : Int) - 48 := by simp [dn]
  rw [e, e1]
  have := (dn_bounds h).1
  unfold isd at hc
  have hp : (0 : Int) < 10 ^ l.length := Int.pow_pos (by omega)
  have := Int.mul_le_mul_of_nonneg_right (show (1 : Int) ≤ (c.toNat : Int) - 48 by omega) (show (0 : Int) ≤ 10 ^ l.length by omega)
  omega
/-- A text of decimal digits that does not begin with 0 is the text of its number. -/
theorem tx_dn {l : List UInt8} {c : UInt8} (h : ∀ c ∈ l, isd c) (hc : isd c) (c0 : c.toNat ≠ 48) : tx (dn (c :: l)) = c :: l := by
  obtain ⟨n, hn⟩ : ∃ n, l.length = n := ⟨_, rfl⟩
  induction n generalizing l with
  | zero =>
    have : l = [] := List.length_eq_zero_iff.1 hn
    subst this
    unfold isd at hc
    have e1 : dn [c] = (c.toNat : Int) - 48 := by simp [dn]
    rw [e1]; unfold tx
    rw [Lib.decDigits_one (by omega), show 48 + ((c.toNat : Int) - 48).toNat = c.toNat by omega]
    simp
  | succ n ih =>
    have hne : l ≠ [] := by intro h; subst h; simp at hn
    have e := (List.dropLast_concat_getLast hne).symm
    have i := ih (l := l.dropLast) (fun c hc => h c (List.dropLast_subset _ hc)) (by simp [hn])
    have hp := dn_pos (l := l.dropLast) (fun c hc => h c (List.dropLast_subset _ hc)) hc c0
    have hl := h (l.getLast hne) (List.getLast_mem hne)
    rw [e, ← List.cons_append, dn_snoc]
    generalize l.getLast hne = d at *
    generalize dn (c :: l.dropLast) = m at *
    unfold isd at hl
    unfold tx at *
    rw [Lib.decDigits, dif_neg (by omega), show (10 * m + ((d.toNat : Int) - 48)).toNat / 10 = m.toNat by omega, i,
      show 48 + (10 * m + ((d.toNat : Int) - 48)).toNat % 10 = d.toNat by omega]
    simp
/-- The text of a positive number: digits, the first of which is not 0. -/
theorem tx_form (x : Int) (hx : 1 ≤ x) : ∃ c l, tx x = c :: l ∧ isd c ∧ c.toNat ≠ 48 ∧ (∀ d ∈ l, isd d) ∧ dn (tx x) = x := by
  obtain ⟨n, rfl⟩ : ∃ n : Nat, x = n := ⟨x.toNat, by omega⟩
  induction n using Nat.strongRecOn with
  | ind n ih =>
    unfold tx
    rw [Int.toNat_natCast]
    have dig : ∀ k, k < 10 → (UInt8.ofNat (48 + k)).toNat = 48 + k := fun k hk => by
      rw [UInt8.toNat_ofNat']; omega
    by_cases h : n < 10
    · rw [Lib.decDigits_one h]
      have e := dig n h
      refine ⟨_, [], rfl, ?_, ?_, (fun d hd => by cases hd), ?_⟩
      · unfold isd; omega
      · omega
      · simp only [dn, List.foldl]; rw [e]; omega
    · rw [Lib.decDigits, dif_neg h]
      obtain ⟨c, l, e1, e2, e3, e4, e5⟩ := ih (n / 10) (by omega) (by omega)
      unfold tx at e1 e5
      rw [Int.toNat_natCast] at e1 e5
      have e := dig (n % 10) (by omega)
      refine ⟨c, l ++ [UInt8.ofNat (48 + n % 10)], by rw [e1]; rfl, e2, e3, ?_, ?_⟩
      · intro d hd
        rcases List.mem_append.1 hd with hd | hd
        · exact e4 d hd
        · rw [List.mem_singleton] at hd; subst hd; unfold isd; omega
      · rw [dn_snoc, e5, e]; omega
end Go.Proofs.YthhbnhdejbpjiaaDoor
