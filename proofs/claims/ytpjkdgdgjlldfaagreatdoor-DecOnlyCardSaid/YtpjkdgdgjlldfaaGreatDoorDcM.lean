/-
  Decimal texts: plain mathematics (digits, their numbers, taking a text apart).
-/
import Derived.Lib.ItoaNum
import Derived.Lib.AtoiAll
import Derived.Lib.Atoi
namespace Go.Proofs.YtpjkdgdgjlldfaaGreatDoor
open Go

/-! ### digits -/
def isD (b : UInt8) : Bool := decide (48 ≤ b.toNat) && decide (b.toNat ≤ 57)
def dig (n : Nat) : UInt8 := UInt8.ofNat (48 + n)
theorem dig_toNat {n : Nat} (h : n < 10) : (dig n).toNat = 48 + n := by unfold dig; simp; omega
theorem isD_dig {n : Nat} (h : n < 10) : isD (dig n) = true := by unfold isD; rw [dig_toNat h]; simp; omega
theorem digitVal_dig {n : Nat} (h : n < 10) : Lib.digitVal (dig n) = some n := by unfold Lib.digitVal; rw [dig_toNat h, if_pos (by omega)]; congr 1; omega
theorem digitVal_isD {b : UInt8} (h : isD b = true) : Lib.digitVal b = some (b.toNat - 48) := by
  unfold isD at h; simp at h; unfold Lib.digitVal; rw [if_pos h]
theorem dig_of {b : UInt8} (h : isD b = true) : dig (b.toNat - 48) = b := by
  unfold isD at h; simp at h
  apply UInt8.toNat_inj.mp
  rw [dig_toNat (by omega)]; omega

theorem decDigits_isD (u : Nat) : ∀ b ∈ Lib.decDigits u, isD b = true := by
  induction u using Nat.strongRecOn with
  | _ u ih =>
    intro b hb
    rw [Lib.decDigits] at hb
    split at hb
    · rw [List.mem_singleton] at hb; subst hb; exact isD_dig (n := u) (by omega)
    · rcases List.mem_append.mp hb with h | h
      · exact ih (u / 10) (by omega) b h
      · rw [List.mem_singleton] at h; subst h; exact isD_dig (n := u % 10) (by omega)
theorem decDigits_ne (u : Nat) : Lib.decDigits u ≠ [] := by
  rw [Lib.decDigits]; split <;> simp
theorem head_append (l r : List UInt8) (h : l ≠ []) : (l ++ r).head? = l.head? := by
  cases l with
  | nil => exact absurd rfl h
  | cons a l => rfl
theorem decDigits_head (u : Nat) (h : u ≠ 0) : (Lib.decDigits u).head? ≠ some 48 := by
  induction u using Nat.strongRecOn with
  | _ u ih =>
    rw [Lib.decDigits]
    split
    · rename_i hu
      intro e
      rw [List.head?_cons, Option.some.injEq] at e
      have := congrArg UInt8.toNat e
      rw [show UInt8.ofNat (48 + u) = dig u from rfl, dig_toNat hu] at this
      simp at this; omega
    · intro e
      have hn := decDigits_ne (u / 10)
      rw [head_append _ _ hn] at e
      exact ih (u / 10) (by omega) (by omega) e
theorem decFrom_append : ∀ (l r : List UInt8) (acc : Nat), Lib.decFrom acc (l ++ r) = (Lib.decFrom acc l).bind fun m => Lib.decFrom m r
  | [], r, acc => rfl
  | b :: l, r, acc => by
    simp only [List.cons_append, Lib.decFrom]
    cases Lib.digitVal b with
    | none => rfl
    | some d => exact decFrom_append l r _
theorem decFrom_dec (u : Nat) : Lib.decFrom 0 (Lib.decDigits u) = some u := by
  induction u using Nat.strongRecOn with
  | _ u ih =>
    rw [Lib.decDigits]
    split
    · rename_i h
      simp only [Lib.decFrom]
      rw [show UInt8.ofNat (48 + u) = dig u from rfl, digitVal_dig h]
      simp
    · rw [decFrom_append, ih (u / 10) (by omega)]
      simp only [Option.bind, Lib.decFrom]
      rw [show UInt8.ofNat (48 + u % 10) = dig (u % 10) from rfl, digitVal_dig (by omega)]
      simp only []
      congr 1; omega
theorem decFrom_digits : ∀ (l : List UInt8) (acc : Nat), (∀ b ∈ l, isD b = true) → ∃ m, Lib.decFrom acc l = some m
  | [], acc, _ => ⟨acc, rfl⟩
  | b :: l, acc, h => by
    simp only [Lib.decFrom]
    rw [digitVal_isD (h b (by simp))]
    exact decFrom_digits l _ fun c hc => h c (by simp [hc])
theorem decFrom_ge : ∀ (l : List UInt8) (acc m : Nat), Lib.decFrom acc l = some m → acc ≤ m
  | [], acc, m, h => by simp [Lib.decFrom] at h; omega
  | b :: l, acc, m, h => by
    simp only [Lib.decFrom] at h
    cases e : Lib.digitVal b with
    | none => rw [e] at h; cases h
    | some d => rw [e] at h; have := decFrom_ge l _ m h; omega
/-- What the library's reading makes of digits. -/
theorem parseU_digits : ∀ (l : List UInt8) (acc m : Nat), (∀ b ∈ l, isD b = true) → Lib.decFrom acc l = some m → Lib.parseUint10 acc l = if m < 18446744073709551616 ∨ l = [] then .ok m else .range
  | [], acc, m, _, h => by simp [Lib.decFrom] at h; simp [Lib.parseUint10, h]
  | b :: l, acc, m, hd, h => by
    have hb := hd b (by simp)
    have hv := digitVal_isD hb
    unfold isD at hb; simp at hb
    simp only [Lib.decFrom] at h
    rw [hv] at h
    simp only [] at h
    have hge := decFrom_ge l _ m h
    simp only [Lib.parseUint10]
    rw [if_pos hb]
    by_cases c1 : 1844674407370955162 ≤ acc
    · rw [if_pos c1, if_neg]; simp; omega
    · rw [if_neg c1]
      by_cases c2 : 18446744073709551616 ≤ acc * 10 + (b.toNat - 48)
      · rw [if_pos c2, if_neg]; simp; omega
      · rw [if_neg c2, parseU_digits l _ m (fun c hc => hd c (by simp [hc])) h]
        by_cases e : l = []
        · subst e; simp [Lib.decFrom] at h; rw [if_pos (Or.inr rfl), if_pos (Or.inl (by omega))]
        · by_cases c3 : m < 18446744073709551616
          · rw [if_pos (Or.inl c3), if_pos (Or.inl c3)]
          · rw [if_neg (by simp [c3, e]), if_neg (by simp [c3])]

/-! ### places -/
/-- The places behind the period of r / 10^d, without zeros at the end. -/
def plc : Nat → Nat → List UInt8
  | 0, _ => []
  | d + 1, r => if r = 0 then [] else dig (r / 10 ^ d) :: plc d (r % 10 ^ d)
theorem plc_zero (d : Nat) : plc d 0 = [] := by cases d <;> simp [plc]
theorem plc_nil {d r : Nat} (h : r < 10 ^ d) : plc d r = [] ↔ r = 0 := by
  cases d with
  | zero => simp at h; subst h; simp [plc]
  | succ d => unfold plc; split <;> simp_all
theorem div_lt10 {d r : Nat} (h : r < 10 ^ (d + 1)) : r / 10 ^ d < 10 := by
  rw [Nat.pow_succ] at h; exact Nat.div_lt_of_lt_mul h
theorem plc_isD : ∀ (d r : Nat), r < 10 ^ d → ∀ b ∈ plc d r, isD b = true
  | 0, _, _, b, hb => by simp [plc] at hb
  | d + 1, r, h, b, hb => by
    unfold plc at hb
    split at hb
    · simp at hb
    · rcases List.mem_cons.mp hb with rfl | hb
      · exact isD_dig (div_lt10 h)
      · exact plc_isD d _ (Nat.mod_lt _ (Nat.pow_pos (by omega))) b hb
theorem plc_length : ∀ (d r : Nat), (plc d r).length ≤ d
  | 0, _ => by simp [plc]
  | d + 1, r => by
    unfold plc; split
    · simp
    · simp only [List.length_cons]; have := plc_length d (r % 10 ^ d); omega
theorem plc_last : ∀ (d r : Nat), r < 10 ^ d → (plc d r).getLast? ≠ some 48
  | 0, _, _ => by simp [plc]
  | d + 1, r, h => by
    unfold plc
    split
    · simp
    · rename_i r0
      by_cases e : r % 10 ^ d = 0
      · rw [e, plc_zero]
        intro k
        simp at k
        have hl := div_lt10 h
        have := congrArg UInt8.toNat k
        rw [dig_toNat hl] at this
        have e48 : (48 : UInt8).toNat = 48 := rfl
        have h2 : r / 10 ^ d = 0 := by omega
        have h1 := Nat.div_add_mod r (10 ^ d)
        rw [e, h2] at h1
        simp at h1; omega
      · have hm := Nat.mod_lt r (Nat.pow_pos (n := d) (by omega : 0 < 10))
        have hn : plc d (r % 10 ^ d) ≠ [] := fun k => e ((plc_nil hm).1 k)
        rw [List.getLast?_cons_of_ne_nil hn]
        exact plc_last d _ hm
theorem decFrom_zeros (acc k : Nat) : Lib.decFrom acc (List.replicate k 48) = some (acc * 10 ^ k) := by
  induction k generalizing acc with
  | zero => simp [Lib.decFrom]
  | succ k ih =>
    rw [List.replicate_succ]
    simp only [Lib.decFrom]
    rw [show Lib.digitVal 48 = some 0 from rfl]
    simp only [Nat.add_zero]
    rw [ih, Nat.pow_succ, Nat.mul_assoc, Nat.mul_comm 10]
theorem decFrom_plc : ∀ (d r acc : Nat), r < 10 ^ d → Lib.decFrom acc (plc d r ++ List.replicate (d - (plc d r).length) 48) = some (acc * 10 ^ d + r)
  | 0, r, acc, h => by simp at h; subst h; simp [plc, Lib.decFrom]
  | d + 1, r, acc, h => by
    unfold plc
    split
    · rename_i e; subst e
      simp only [List.nil_append, List.length_nil, Nat.sub_zero]
      rw [decFrom_zeros]; rfl
    · simp only [List.cons_append, List.length_cons, Lib.decFrom]
      rw [digitVal_dig (div_lt10 h)]
      simp only []
      rw [show d + 1 - ((plc d (r % 10 ^ d)).length + 1) = d - (plc d (r % 10 ^ d)).length by omega, decFrom_plc d _ _ (Nat.mod_lt _ (Nat.pow_pos (by omega)))]
      congr 1
      have h1 := Nat.div_add_mod r (10 ^ d)
      rw [Nat.pow_succ, Nat.add_mul, Nat.mul_assoc, Nat.mul_comm 10 (10 ^ d), Nat.add_assoc, Nat.mul_comm (r / 10 ^ d), h1]
theorem plc_ten : ∀ (d r : Nat), r < 10 ^ d → plc (d + 1) (10 * r) = plc d r
  | 0, r, h => by simp at h; subst h; simp [plc]
  | d + 1, r, h => by
    rw [plc, plc.eq_def (d + 1) r]
    by_cases e : r = 0
    · subst e; simp
    · simp only []
      rw [if_neg (by omega), if_neg e, Nat.pow_succ, Nat.mul_comm (10 ^ d) 10, Nat.mul_div_mul_left _ _ (by omega), Nat.mul_mod_mul_left, plc_ten d _ (Nat.mod_lt _ (Nat.pow_pos (by omega)))]

/-! ### the text -/
def pnt (l : List UInt8) : List UInt8 := if l = [] then [] else 46 :: l
def sgn (n : Int) : List UInt8 := if n < 0 then [45] else []
def txt (n : Int) (d : Nat) : List UInt8 := sgn n ++ (Lib.decDigits (n.natAbs / 10 ^ d) ++ pnt (plc d (n.natAbs % 10 ^ d)))
theorem txt_ten (n : Int) (d : Nat) : txt (10 * n) (d + 1) = txt n d := by
  unfold txt
  rw [show (10 * n).natAbs = 10 * n.natAbs by omega, Nat.pow_succ, Nat.mul_comm (10 ^ d) 10, Nat.mul_div_mul_left _ _ (by omega), Nat.mul_mod_mul_left, plc_ten d _ (Nat.mod_lt _ (Nat.pow_pos (by omega)))]
  unfold sgn
  by_cases h : n < 0
  · rw [if_pos h, if_pos (by omega)]
  · rw [if_neg h, if_neg (by omega)]

/-! ### a text taken apart -/
def body (l : List UInt8) : List UInt8 := if l.head? = some 45 then l.tail else l
def spl (l : List UInt8) : Option (List UInt8 × List UInt8 × List UInt8) :=
  let sg : List UInt8 := if l.head? = some 45 then [45] else []
  let wh := (body l).takeWhile isD
  let re := (body l).dropWhile isD
  if wh = [] ∨ (wh.head? = some 48 ∧ wh ≠ [48]) then none
  else if re = [] then (if sg = [] ∨ wh ≠ [48] then some (sg, wh, []) else none)
  else if re.head? ≠ some 46 ∨ re.tail = [] ∨ re.tail.takeWhile isD ≠ re.tail ∨ re.tail.getLast? = some 48 then none
  else some (sg, wh, re.tail)
/-- What Parse returns: the number and the error. -/
def prs (l : List UInt8) (d : Nat) : Int × Int :=
  match spl l with
  | none => (0, 5)
  | some (sg, wh, pl) => if d < pl.length then (0, 5) else match Lib.atoiAll (sg ++ wh ++ pl ++ List.replicate (d - pl.length) 48) with
    | .ok v => (v, 0)
    | _ => (0, 6)

theorem takeWhile_all {p : UInt8 → Bool} : ∀ (l r : List UInt8), (∀ b ∈ l, p b = true) → (∀ b, r.head? = some b → p b = false) → (l ++ r).takeWhile p = l ∧ (l ++ r).dropWhile p = r
  | [], [], _, _ => by simp
  | [], b :: r, _, h => by have := h b rfl; simp [this]
  | a :: l, r, h, h' => by
    have := takeWhile_all l r (fun b hb => h b (by simp [hb])) h'
    simp [h a (by simp), this]
theorem dec_head (u : Nat) (r : List UInt8) : (Lib.decDigits u ++ r).head? ≠ some 45 := by
  rw [head_append _ _ (decDigits_ne u)]
  intro e
  have := decDigits_isD u 45 (List.mem_of_mem_head? e)
  exact absurd this (by decide)
theorem spl_txt (n : Int) (d : Nat) : spl (txt n d) = some (sgn n, Lib.decDigits (n.natAbs / 10 ^ d), plc d (n.natAbs % 10 ^ d)) := by
  have hm : n.natAbs % 10 ^ d < 10 ^ d := Nat.mod_lt _ (Nat.pow_pos (by omega))
  have hb : body (txt n d) = Lib.decDigits (n.natAbs / 10 ^ d) ++ pnt (plc d (n.natAbs % 10 ^ d)) ∧ (if (txt n d).head? = some 45 then [45] else []) = sgn n := by
    unfold body txt sgn
    by_cases h : n < 0
    · rw [if_pos h]; simp
    · rw [if_neg h]; simp only [List.nil_append]
      rw [if_neg (dec_head _ _), if_neg (dec_head _ _)]; exact ⟨rfl, rfl⟩
  have hp : ∀ b, (pnt (plc d (n.natAbs % 10 ^ d))).head? = some b → isD b = false := by
    intro b hb; unfold pnt at hb; split at hb
    · cases hb
    · simp at hb; subst hb; rfl
  obtain ⟨t1, t2⟩ := takeWhile_all _ _ (decDigits_isD (n.natAbs / 10 ^ d)) hp
  unfold spl
  simp only []
  rw [hb.1, hb.2, t1, t2]
  have hw : ¬(Lib.decDigits (n.natAbs / 10 ^ d) = [] ∨ (Lib.decDigits (n.natAbs / 10 ^ d)).head? = some 48 ∧ Lib.decDigits (n.natAbs / 10 ^ d) ≠ [48]) := by
    rintro (h | ⟨h, h'⟩)
    · exact decDigits_ne _ h
    · by_cases e : n.natAbs / 10 ^ d = 0
      · rw [e] at h'; exact h' (Lib.decDigits_one (i := 0) (by omega))
      · exact decDigits_head _ e h
  rw [if_neg hw]
  by_cases hr : n.natAbs % 10 ^ d = 0
  · rw [hr, plc_zero]
    rw [if_pos (show pnt [] = [] from rfl), if_pos]
    by_cases h : n < 0
    · right
      intro e
      have h1 := decFrom_dec (n.natAbs / 10 ^ d)
      rw [e] at h1
      simp [Lib.decFrom, Lib.digitVal] at h1
      have h2 := Nat.div_add_mod n.natAbs (10 ^ d)
      rw [hr, ← h1] at h2
      simp at h2; omega
    · left; unfold sgn; rw [if_neg h]
  · have hn : plc d (n.natAbs % 10 ^ d) ≠ [] := fun k => hr ((plc_nil hm).1 k)
    rw [show pnt (plc d (n.natAbs % 10 ^ d)) = 46 :: plc d (n.natAbs % 10 ^ d) from if_neg hn, if_neg (by simp)]
    simp only [List.head?_cons, List.tail_cons]
    obtain ⟨t3, -⟩ := takeWhile_all (plc d (n.natAbs % 10 ^ d)) [] (plc_isD d _ hm) (by simp)
    rw [List.append_nil] at t3
    refine if_neg ?_
    rintro (h | h | h | h)
    · exact h rfl
    · exact hn h
    · exact h t3
    · exact plc_last d _ hm h

theorem atoi_digits (sg : Bool) (l : List UInt8) (m : Nat) (hn : l ≠ []) (hd : ∀ b ∈ l, isD b = true) (hm : Lib.decFrom 0 l = some m) :
    Lib.atoiAll ((if sg then [45] else []) ++ l) = if sg then (if m ≤ 9223372036854775808 then .ok (-(m : Int)) else .range) else (if m < 9223372036854775808 then .ok (m : Int) else .range) := by
  have hp : Lib.parseMag l = if m < 18446744073709551616 then .ok m else .range := by
    unfold Lib.parseMag
    rw [if_neg hn, parseU_digits l 0 m hd hm]
    simp [hn]
  cases sg with
  | true =>
    simp only [if_true, List.cons_append, List.nil_append]
    unfold Lib.atoiAll
    simp only []
    rw [if_pos (by decide), hp]
    by_cases c : m < 18446744073709551616
    · rw [if_pos c]
      simp only []
      by_cases c2 : m ≤ 9223372036854775808
      · rw [if_neg (by simp), if_neg (by simp; omega), if_pos c2]; simp
      · rw [if_neg (by simp), if_pos (by simp; omega), if_neg c2]
    · rw [if_neg c, if_neg (by omega)]
  | false =>
    simp only [Bool.false_eq_true, if_false, List.nil_append]
    cases l with
    | nil => exact absurd rfl hn
    | cons c r =>
      have hc := hd c (by simp)
      unfold isD at hc; simp at hc
      unfold Lib.atoiAll
      simp only []
      rw [if_neg (by omega), hp]
      by_cases c1 : m < 18446744073709551616
      · rw [if_pos c1]
        simp only []
        by_cases c2 : m < 9223372036854775808
        · rw [if_neg (by omega), if_neg (by omega), if_pos c2, if_neg (by omega)]
        · rw [if_pos (by omega), if_neg c2]
      · rw [if_neg c1, if_neg (by omega)]
/-- Parse inverts Text. -/
theorem prs_txt (n : Int) (d : Nat) (h0 : -9223372036854775808 ≤ n) (h1 : n ≤ 9223372036854775807) : prs (txt n d) d = (n, 0) := by
  have hm : n.natAbs % 10 ^ d < 10 ^ d := Nat.mod_lt _ (Nat.pow_pos (by omega))
  unfold prs
  rw [spl_txt]
  simp only []
  have hl := plc_length d (n.natAbs % 10 ^ d)
  rw [if_neg (by omega)]
  have hv : Lib.decFrom 0 (Lib.decDigits (n.natAbs / 10 ^ d) ++ (plc d (n.natAbs % 10 ^ d) ++ List.replicate (d - (plc d (n.natAbs % 10 ^ d)).length) 48)) = some n.natAbs := by
    rw [decFrom_append, decFrom_dec]
    simp only [Option.bind]
    rw [decFrom_plc d _ _ hm]
    congr 1
    have := Nat.div_add_mod n.natAbs (10 ^ d)
    rw [Nat.mul_comm] at this; exact this
  have hd : ∀ b ∈ Lib.decDigits (n.natAbs / 10 ^ d) ++ (plc d (n.natAbs % 10 ^ d) ++ List.replicate (d - (plc d (n.natAbs % 10 ^ d)).length) 48), isD b = true := by
    intro b hb
    rcases List.mem_append.mp hb with h | h
    · exact decDigits_isD _ b h
    · rcases List.mem_append.mp h with h | h
      · exact plc_isD d _ hm b h
      · rw [List.eq_of_mem_replicate h]; rfl
  have ha := atoi_digits (decide (n < 0)) _ n.natAbs (by simp [decDigits_ne]) hd hv
  have hs : sgn n ++ Lib.decDigits (n.natAbs / 10 ^ d) ++ plc d (n.natAbs % 10 ^ d) ++ List.replicate (d - (plc d (n.natAbs % 10 ^ d)).length) 48 = (if decide (n < 0) = true then [45] else []) ++ (Lib.decDigits (n.natAbs / 10 ^ d) ++ (plc d (n.natAbs % 10 ^ d) ++ List.replicate (d - (plc d (n.natAbs % 10 ^ d)).length) 48)) := by
    unfold sgn; simp
  rw [hs, ha]
  by_cases h : n < 0
  · rw [if_pos (by simpa using h), if_pos (by omega)]
    simp only []
    rw [show -((n.natAbs : Nat) : Int) = n by omega]
  · rw [if_neg (by simpa using h), if_pos (by omega)]
    simp only []
    rw [show ((n.natAbs : Nat) : Int) = n by omega]
theorem prs_txt_ten (n : Int) (d : Nat) (h0 : -9223372036854775808 ≤ 10 * n) (h1 : 10 * n ≤ 9223372036854775807) : prs (txt n d) (d + 1) = (10 * n, 0) := by
  rw [← txt_ten]; exact prs_txt _ _ h0 h1
theorem snoc_ind {P : List UInt8 → Prop} (h0 : P []) (h1 : ∀ l b, P l → P (l ++ [b])) (l : List UInt8) : P l := by
  have : ∀ k : List UInt8, P k.reverse := by
    intro k
    induction k with
    | nil => exact h0
    | cons a k ih => rw [List.reverse_cons]; exact h1 _ _ ih
  have := this l.reverse
  rwa [List.reverse_reverse] at this
/-! ### back: what is read is the text of its number -/
theorem decFrom_acc : ∀ (l : List UInt8) (acc v : Nat), Lib.decFrom 0 l = some v → Lib.decFrom acc l = some (acc * 10 ^ l.length + v) ∧ v < 10 ^ l.length := by
  refine snoc_ind (P := fun l => ∀ (acc v : Nat), Lib.decFrom 0 l = some v → Lib.decFrom acc l = some (acc * 10 ^ l.length + v) ∧ v < 10 ^ l.length) ?_ ?_
  · intro acc v h; simp [Lib.decFrom] at h; subst h; simp [Lib.decFrom]
  · intro l b ih
    intro acc v h
    rw [decFrom_append] at h
    cases e : Lib.decFrom 0 l with
    | none => rw [e] at h; cases h
    | some u =>
      obtain ⟨i1, i2⟩ := ih acc u e
      rw [e] at h
      rw [decFrom_append, i1]
      simp only [Option.bind, Lib.decFrom] at h ⊢
      cases ev : Lib.digitVal b with
      | none => rw [ev] at h; cases h
      | some d =>
        rw [ev] at h
        simp only [Option.some.injEq] at h ⊢
        have hd : d < 10 := by
          unfold Lib.digitVal at ev
          split at ev
          · rename_i c; simp at ev; omega
          · cases ev
        rw [List.length_append, List.length_singleton, Nat.pow_succ, ← Nat.mul_assoc]
        omega
theorem plc_of : ∀ (pl : List UInt8) (d v : Nat), (∀ b ∈ pl, isD b = true) → pl.length ≤ d → pl.getLast? ≠ some 48 → Lib.decFrom 0 (pl ++ List.replicate (d - pl.length) 48) = some v → plc d v = pl
  | [], d, v, _, _, _, h => by
    simp only [List.nil_append, List.length_nil, Nat.sub_zero] at h
    rw [decFrom_zeros] at h
    simp at h; subst h; exact plc_zero d
  | b :: t, 0, v, _, hl, _, _ => by simp at hl
  | b :: t, d + 1, v, hd, hl, hx, h => by
    have hb := hd b (by simp)
    have ht : ∀ c ∈ t, isD c = true := fun c hc => hd c (by simp [hc])
    simp only [List.length_cons] at hl h
    rw [show d + 1 - (t.length + 1) = d - t.length by omega] at h
    simp only [List.cons_append, Lib.decFrom] at h
    rw [digitVal_isD hb] at h
    simp only [Nat.zero_mul, Nat.zero_add] at h
    obtain ⟨v', hv'⟩ := decFrom_digits (t ++ List.replicate (d - t.length) 48) 0 (by
      intro c hc
      rcases List.mem_append.mp hc with k | k
      · exact ht c k
      · rw [List.eq_of_mem_replicate k]; rfl)
    obtain ⟨a1, a2⟩ := decFrom_acc _ (b.toNat - 48) v' hv'
    rw [h] at a1
    have hlen : (t ++ List.replicate (d - t.length) (48 : UInt8)).length = d := by simp; omega
    rw [hlen] at a1 a2
    simp only [Option.some.injEq] at a1
    have hp : 0 < 10 ^ d := Nat.pow_pos (by omega)
    have e1 : v / 10 ^ d = b.toNat - 48 := by rw [a1, Nat.mul_comm, Nat.mul_add_div hp, Nat.div_eq_of_lt a2]; omega
    have e2 : v % 10 ^ d = v' := by rw [a1, Nat.mul_comm, Nat.mul_add_mod, Nat.mod_eq_of_lt a2]
    have tl : t ≠ [] → t.getLast? ≠ some 48 := by
      intro hn; rw [List.getLast?_cons_of_ne_nil hn] at hx; exact hx
    have hr : plc d v' = t := by
      by_cases hn : t = []
      · subst hn
        simp only [List.nil_append, List.length_nil, Nat.sub_zero] at hv'
        rw [decFrom_zeros] at hv'
        simp at hv'; subst hv'; exact plc_zero d
      · exact plc_of t d v' ht (by omega) (tl hn) hv'
    unfold plc
    rw [if_neg, e1, e2, dig_of hb, hr]
    intro v0
    rw [v0] at a1
    have z1 : (b.toNat - 48) * 10 ^ d = 0 := by omega
    have z2 : v' = 0 := by omega
    have z3 : b.toNat - 48 = 0 := by
      rcases Nat.mul_eq_zero.mp z1 with k | k
      · exact k
      · omega
    rw [z2, plc_zero] at hr
    subst hr
    apply hx
    simp
    rw [← dig_of hb, z3]; rfl
theorem dec_unique : ∀ (l : List UInt8) (q : Nat), l ≠ [] → (∀ b ∈ l, isD b = true) → (l.head? ≠ some 48 ∨ l = [48]) → Lib.decFrom 0 l = some q → Lib.decDigits q = l := by
  refine snoc_ind (P := fun l => ∀ (q : Nat), l ≠ [] → (∀ b ∈ l, isD b = true) → (l.head? ≠ some 48 ∨ l = [48]) → Lib.decFrom 0 l = some q → Lib.decDigits q = l) ?_ ?_
  · intro q h; exact absurd rfl h
  · intro l b ih
    intro q _ hd hh h
    have hb := hd b (by simp)
    have hb' := hb
    unfold isD at hb'; simp at hb'
    rw [decFrom_append] at h
    cases e : Lib.decFrom 0 l with
    | none => rw [e] at h; cases h
    | some u =>
      rw [e] at h
      simp only [Option.bind, Lib.decFrom] at h
      rw [digitVal_isD hb] at h
      simp only [Option.some.injEq] at h
      by_cases hn : l = []
      · subst hn
        simp [Lib.decFrom] at e
        subst e
        rw [Lib.decDigits_one (by omega)]
        simp only [List.nil_append]
        rw [show UInt8.ofNat (48 + q) = dig (b.toNat - 48) by unfold dig; congr 2; omega, dig_of hb]
      · have h48 : l.head? ≠ some 48 := by
          rcases hh with k | k
          · rw [head_append _ _ hn] at k; exact k
          · have := congrArg List.length k
            simp at this; exact absurd this hn
        have i := ih u hn (fun c hc => hd c (by simp [hc])) (Or.inl h48) e
        have u0 : u ≠ 0 := by
          intro z; subst z
          rw [Lib.decDigits_one (by omega)] at i
          rw [← i] at h48; exact h48 rfl
        rw [Lib.decDigits, dif_neg (by omega), show q / 10 = u by omega, i, show UInt8.ofNat (48 + q % 10) = dig (b.toNat - 48) by unfold dig; congr 2; omega, dig_of hb]
theorem takeWhile_isD : ∀ (l : List UInt8), (∀ b ∈ l.takeWhile isD, isD b = true) ∧ l.takeWhile isD ++ l.dropWhile isD = l
  | [] => by simp
  | a :: l => by
    obtain ⟨i1, i2⟩ := takeWhile_isD l
    by_cases h : isD a = true
    · simp [h, i2]; simpa using i1
    · simp [h]
theorem spl_some (s sg wh pl : List UInt8) (h : spl s = some (sg, wh, pl)) :
    s = sg ++ (wh ++ pnt pl) ∧ (sg = [45] ∨ sg = []) ∧ wh ≠ [] ∧ (∀ b ∈ wh, isD b = true) ∧ (wh.head? ≠ some 48 ∨ wh = [48]) ∧ (∀ b ∈ pl, isD b = true) ∧ pl.getLast? ≠ some 48 ∧ (pl = [] → sg = [] ∨ wh ≠ [48]) := by
  have hs : s = (if s.head? = some 45 then [45] else []) ++ body s := by
    unfold body
    cases s with
    | nil => rfl
    | cons a s =>
      by_cases c : (a :: s).head? = some 45
      · rw [if_pos c, if_pos c]; simp at c; subst c; rfl
      · rw [if_neg c, if_neg c]; rfl
  obtain ⟨w1, w2⟩ := takeWhile_isD (body s)
  unfold spl at h
  simp only [] at h
  generalize hsg : (if s.head? = some 45 then [45] else ([] : List UInt8)) = sg' at h hs
  have s2 : sg' = [45] ∨ sg' = [] := by rw [← hsg]; split <;> simp
  generalize hw : (body s).takeWhile isD = wh' at h w1 w2
  generalize hr : (body s).dropWhile isD = re at h w2
  split at h
  · cases h
  · rename_i c1
    have c2 : wh' ≠ [] := fun k => c1 (Or.inl k)
    have c3 : wh'.head? ≠ some 48 ∨ wh' = [48] := by
      by_cases k : wh' = [48]
      · exact Or.inr k
      · exact Or.inl fun k' => c1 (Or.inr ⟨k', k⟩)
    split at h
    · rename_i c4
      split at h
      · rename_i c5
        simp only [Option.some.injEq, Prod.mk.injEq] at h
        obtain ⟨rfl, rfl, rfl⟩ := h
        refine ⟨?_, s2, c2, w1, c3, by simp, by simp, fun _ => c5⟩
        rw [c4] at w2
        rw [show pnt [] = [] from rfl, w2]; exact hs
      · cases h
    · rename_i c4
      split at h
      · cases h
      · rename_i c5
        simp only [Option.some.injEq, Prod.mk.injEq] at h
        obtain ⟨rfl, rfl, rfl⟩ := h
        have d1 : re.head? = some 46 := by
          apply Classical.byContradiction; intro k; exact c5 (Or.inl k)
        have d2 : re.tail ≠ [] := fun k => c5 (Or.inr (Or.inl k))
        have d3 : re.tail.takeWhile isD = re.tail := by
          apply Classical.byContradiction; intro k; exact c5 (Or.inr (Or.inr (Or.inl k)))
        have d4 : re.tail.getLast? ≠ some 48 := fun k => c5 (Or.inr (Or.inr (Or.inr k)))
        have d5 := (takeWhile_isD re.tail).1
        rw [d3] at d5
        refine ⟨?_, s2, c2, w1, c3, d5, d4, fun k => absurd k d2⟩
        have : pnt re.tail = re := by
          unfold pnt; rw [if_neg d2]
          cases re with
          | nil => exact absurd rfl c4
          | cons a r => simp at d1; subst d1; rfl
        rw [this, w2]; exact hs
/-- What Parse reads is the text of its number. -/
theorem txt_prs (s : List UInt8) (d : Nat) (m : Int) (h : prs s d = (m, 0)) : txt m d = s := by
  unfold prs at h
  cases hs : spl s with
  | none => rw [hs] at h; simp at h
  | some x =>
    obtain ⟨sg, wh, pl⟩ := x
    rw [hs] at h
    simp only [] at h
    obtain ⟨e1, e2, e3, e4, e5, e6, e7, e8⟩ := spl_some s sg wh pl hs
    split at h
    · simp at h
    · rename_i hl
      obtain ⟨q, hq⟩ := decFrom_digits wh 0 e4
      have hz : ∀ b ∈ pl ++ List.replicate (d - pl.length) 48, isD b = true := by
        intro b hb
        rcases List.mem_append.mp hb with k | k
        · exact e6 b k
        · rw [List.eq_of_mem_replicate k]; rfl
      obtain ⟨r, hr⟩ := decFrom_digits (pl ++ List.replicate (d - pl.length) 48) 0 hz
      obtain ⟨a1, a2⟩ := decFrom_acc _ q r hr
      have hlen : (pl ++ List.replicate (d - pl.length) (48 : UInt8)).length = d := by simp; omega
      rw [hlen] at a1 a2
      have hq2 := dec_unique wh q e3 e4 e5 hq
      have hr2 := plc_of pl d r e6 (by omega) e7 hr
      have hall : Lib.decFrom 0 (wh ++ (pl ++ List.replicate (d - pl.length) 48)) = some (q * 10 ^ d + r) := by
        rw [decFrom_append, hq]; exact a1
      have hp : 0 < 10 ^ d := Nat.pow_pos (by omega)
      have f1 : (q * 10 ^ d + r) / 10 ^ d = q := by rw [Nat.mul_comm, Nat.mul_add_div hp, Nat.div_eq_of_lt a2]; omega
      have f2 : (q * 10 ^ d + r) % 10 ^ d = r := by rw [Nat.mul_comm, Nat.mul_add_mod, Nat.mod_eq_of_lt a2]
      have hd : ∀ b ∈ wh ++ (pl ++ List.replicate (d - pl.length) 48), isD b = true := by
        intro b hb
        rcases List.mem_append.mp hb with k | k
        · exact e4 b k
        · exact hz b k
      have hat := fun b => atoi_digits b _ _ (by simp [e3]) hd hall
      have fin : ∀ (z : Int), z.natAbs = q * 10 ^ d + r → sgn z = sg → txt z d = s := by
        intro z z1 z2
        unfold txt
        rw [z1, z2, f1, f2, hq2, hr2]; exact e1.symm
      rcases e2 with k | k
      · rw [k, List.append_assoc, List.append_assoc, show ([45] : List UInt8) = (if true = true then [45] else []) from rfl, hat true] at h
        simp only [if_true] at h
        split at h
        · simp only [Prod.mk.injEq] at h
          rename_i v hv
          split at hv
          · simp only [Lib.NumEnd.ok.injEq] at hv
            have hne : q * 10 ^ d + r ≠ 0 := by
              intro z
              have r0 : r = 0 := by omega
              have q0 : q = 0 := by
                rcases Nat.mul_eq_zero.mp (show q * 10 ^ d = 0 by omega) with y | y
                · exact y
                · omega
              rw [r0, plc_zero] at hr2
              rw [q0, Lib.decDigits_one (by omega)] at hq2
              rcases e8 hr2.symm with y | y
              · rw [k] at y; cases y
              · exact y hq2.symm
            refine fin m (by omega) ?_
            rw [k]; unfold sgn; rw [if_pos (by omega)]
          · cases hv
        · simp at h
      · rw [k, List.append_assoc, List.append_assoc, show ([] : List UInt8) = (if false = true then [45] else []) from rfl, hat false] at h
        simp only [Bool.false_eq_true, if_false] at h
        split at h
        · simp only [Prod.mk.injEq] at h
          rename_i v hv
          split at hv
          · simp only [Lib.NumEnd.ok.injEq] at hv
            refine fin m (by omega) ?_
            rw [k]; unfold sgn; rw [if_neg (by omega)]
          · cases hv
        · simp at h
end Go.Proofs.YtpjkdgdgjlldfaaGreatDoor
