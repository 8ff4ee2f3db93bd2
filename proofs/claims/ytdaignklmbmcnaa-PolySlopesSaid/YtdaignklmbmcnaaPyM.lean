/-
  Mathematics of polynomials with interval coefficients: Horner's rule, intervals within intervals, the beginning.
-/
import Derived.Test.YtdaignklmbmcnaaSpMb
import Derived.Test.YtdaignklmbmcnaaSpG
namespace Go.Proofs.Ytdaignklmbmcnaa

theorem py_ovR_val {x y z u : Int × Int × Int} (hx : -4503599627370496 ≤ x.1 ∧ x.2.1 ≤ 4503599627370496) (hy : -4503599627370496 ≤ y.1 ∧ y.2.1 ≤ 4503599627370496) (hz : -4503599627370496 ≤ z.1 ∧ z.2.1 ≤ 4503599627370496) (hu : -4503599627370496 ≤ u.1 ∧ u.2.1 ≤ 4503599627370496) :
    -4503599627370496 ≤ (ovR [x, y, z, u]).1 ∧ (ovR [x, y, z, u]).2.1 ≤ 4503599627370496 := by
  unfold ovR
  split
  · have h1 : lows [x, y, z, u] = min (min (min (min 9223372036854775807 x.1) y.1) z.1) u.1 := rfl
    have h2 : highs [x, y, z, u] = max (max (max (max (-9223372036854775808) x.2.1) y.2.1) z.2.1) u.2.1 := rfl
    simp only [h1, h2]
    omega
  · simp
theorem py_atR_val {D U : Int} : -4503599627370496 ≤ (atR (lim D) (lim U)).1 ∧ (atR (lim D) (lim U)).2.1 ≤ 4503599627370496 := by
  have h1 := lim_bd D
  have h2 := lim_bd U
  unfold atR
  split
  · exact ⟨h1.1, h2.2⟩
  · simp
/-- A product of valid intervals is valid, or an error with 0. -/
theorem py_mul_val {a b c d : Int} (k : ckS a b = 0) (k' : ckS c d = 0) : ckS (sMulR a b c d).1 (sMulR a b c d).2.1 = 0 := by
  have va := valS k
  have vb := valS k'
  obtain ⟨l, h, e⟩ : ∃ l h, ((sMulR a b c d).1, (sMulR a b c d).2.1) = (l, h) := ⟨_, _, rfl⟩
  by_cases z : (sMulR a b c d).2.2 = 0
  · have e0 : sMulR a b c d = ((sMulR a b c d).1, (sMulR a b c d).2.1, 0) := by rw [← z]
    have f := mul_corner k k' e0 a c (.inl rfl) (.inl rfl)
    have g : ∀ x y : Int, (x = a ∨ x = b) → (y = c ∨ y = d) → -4503599627370496 ≤ (atR (mulR false x y) (mulR true x y)).1 ∧ (atR (mulR false x y) (mulR true x y)).2.1 ≤ 4503599627370496 := fun x y hx hy => by
      rw [mulR_in false (by omega) (by omega) (by omega) (by omega), mulR_in true (by omega) (by omega) (by omega) (by omega)]
      exact py_atR_val
    have v := py_ovR_val (g a c (.inl rfl) (.inl rfl)) (g a d (.inl rfl) (.inr rfl)) (g b c (.inr rfl) (.inl rfl)) (g b d (.inr rfl) (.inr rfl))
    have e1 : sMulR a b c d = ovR [atR (mulR false a c) (mulR true a c), atR (mulR false a d) (mulR true a d), atR (mulR false b c) (mulR true b c), atR (mulR false b d) (mulR true b d)] := by
      unfold sMulR; rw [if_pos (val2 k k')]; rfl
    rw [← e1] at v
    have r := rq_le (a * c) 4294967296 (by omega)
    rw [mulR_in false (by omega) (by omega) (by omega) (by omega), mulR_in true (by omega) (by omega) (by omega) (by omega)] at f
    have l1 := lim_val f.1
    have l2 := lim_val f.2.1
    have f3 := f.2.2.1
    have f4 := f.2.2.2
    exact ckS_ok v.1 (by omega) v.2
  · have : sMulR a b c d = (0, 0, (sMulR a b c d).2.2) := by
      unfold sMulR at z ⊢
      rw [if_pos (val2 k k')] at z ⊢
      unfold ovR at z ⊢
      split at z
      · exact absurd rfl z
      · rw [if_neg (by assumption)]
    rw [show (sMulR a b c d).1 = 0 by rw [this], show (sMulR a b c d).2.1 = 0 by rw [this]]
    decide
theorem py_zero : ckS 0 0 = 0 := by decide
theorem py_lim_val (l h : Int) : ckS (limS l h).1 (limS l h).2.1 = 0 := by
  unfold limS
  split
  · assumption
  · exact py_zero
theorem py_add_val (a b c d : Int) : ckS (sAddR a b c d).1 (sAddR a b c d).2.1 = 0 := by
  unfold sAddR
  split
  · exact py_lim_val _ _
  · exact py_zero

/-- The i-th interval of a list. -/
def pf (l : List (Int × Int)) (i : Nat) : Int × Int := l.getD i (0, 0)
theorem pf_drop {l : List (Int × Int)} {i : Nat} (h : i < l.length) : l.drop i = pf l i :: l.drop (i + 1) := by
  rw [List.drop_eq_getElem_cons h]
  simp [pf, List.getD_eq_getElem?_getD, List.getElem?_eq_getElem h]
theorem pf_cons_succ (c : Int × Int) (l : List (Int × Int)) (i : Nat) : pf (c :: l) (i + 1) = pf l i := by simp [pf]
theorem pf_mem {l : List (Int × Int)} {i : Nat} (h : i < l.length) : pf l i ∈ l := by
  simp only [pf, List.getD_eq_getElem?_getD, List.getElem?_eq_getElem h]; exact List.getElem_mem h

/-- One step of Horner's rule, behind which the first error stays. -/
def hst (x y : Int) (v : Int × Int × Int) (c : Int × Int) : Int × Int × Int :=
  if v.2.2 = 0 then (if (sMulR v.1 v.2.1 x y).2.2 = 0 then sAddR (sMulR v.1 v.2.1 x y).1 (sMulR v.1 v.2.1 x y).2.1 c.1 c.2 else sMulR v.1 v.2.1 x y) else v
/-- The value. -/
def pvl (x y : Int) : List (Int × Int) → Int × Int × Int
  | [] => (0, 0, 0)
  | c :: l => if l = [] then (c.1, c.2, 0) else hst x y (pvl x y l) c
theorem pvl_one (x y : Int) (c : Int × Int) : pvl x y [c] = (c.1, c.2, 0) := by simp [pvl]
theorem pvl_cons (x y : Int) (c : Int × Int) {l : List (Int × Int)} (h : l ≠ []) : pvl x y (c :: l) = hst x y (pvl x y l) c := by simp [pvl, h]
theorem pvl_at (x y : Int) (l : List (Int × Int)) (i : Nat) (h : i + 1 < l.length) : pvl x y (l.drop i) = hst x y (pvl x y (l.drop (i + 1))) (pf l i) := by
  rw [pf_drop (by omega : i < l.length), pvl_cons]
  intro e
  have := congrArg List.length e
  simp at this; omega
theorem pvl_last (x y : Int) (l : List (Int × Int)) (i : Nat) (h : i + 1 = l.length) : pvl x y (l.drop i) = ((pf l i).1, (pf l i).2, 0) := by
  rw [pf_drop (by omega : i < l.length), List.drop_eq_nil_of_le (by omega), pvl_one]

def Ok (l : List (Int × Int)) : Prop := ∀ c ∈ l, ckS c.1 c.2 = 0
theorem Ok.tail {c : Int × Int} {l : List (Int × Int)} (h : Ok (c :: l)) : Ok l := fun d hd => h d (List.mem_cons_of_mem _ hd)
theorem Ok.head {c : Int × Int} {l : List (Int × Int)} (h : Ok (c :: l)) : ckS c.1 c.2 = 0 := h c List.mem_cons_self
theorem hst_val {x y : Int} {v : Int × Int × Int} {c : Int × Int} (kx : ckS x y = 0) (kv : ckS v.1 v.2.1 = 0) : ckS (hst x y v c).1 (hst x y v c).2.1 = 0 := by
  unfold hst
  split
  · split
    · exact py_add_val _ _ _ _
    · exact py_mul_val kv kx
  · exact kv
theorem pvl_val {x y : Int} (kx : ckS x y = 0) : ∀ {l : List (Int × Int)}, Ok l → ckS (pvl x y l).1 (pvl x y l).2.1 = 0
  | [], _ => by simpa [pvl] using py_zero
  | c :: l, h => by
    unfold pvl
    split
    · exact h.head
    · exact hst_val kx (pvl_val kx h.tail)

/-- The first error of the arguments. -/
def ckL (l : List (Int × Int)) (x y : Int) : Int := if 8 < l.length then 3 else if l.all (fun c => ckS c.1 c.2 == 0) then ckS x y else 20
theorem all_ok {l : List (Int × Int)} : l.all (fun c => ckS c.1 c.2 == 0) = true ↔ Ok l := by
  simp [List.all_eq_true, Ok]
theorem ckL_long {l : List (Int × Int)} (x y : Int) (h : 8 < l.length) : ckL l x y = 3 := by unfold ckL; rw [if_pos h]
theorem ckL_ok {l : List (Int × Int)} (x y : Int) (h : l.length ≤ 8) (k : Ok l) : ckL l x y = ckS x y := by
  unfold ckL; rw [if_neg (by omega), if_pos (all_ok.2 k)]
theorem ckL_bad {l : List (Int × Int)} (x y : Int) (h : l.length ≤ 8) {i : Nat} (hi : i < l.length) (k : ckS (pf l i).1 (pf l i).2 = 20) : ckL l x y = 20 := by
  have : ¬ l.all (fun c => ckS c.1 c.2 == 0) = true := fun e => by
    have := all_ok.1 e _ (pf_mem hi)
    omega
  unfold ckL; rw [if_neg (by omega), if_neg this]
theorem ok_of {l : List (Int × Int)} (h : ∀ i, i < l.length → ckS (pf l i).1 (pf l i).2 = 0) : Ok l := by
  intro c hc
  obtain ⟨i, hi, rfl⟩ := List.getElem_of_mem hc
  have := h i hi
  simpa [pf, List.getD_eq_getElem?_getD, List.getElem?_eq_getElem hi] using this
theorem ckL_zero {l : List (Int × Int)} {x y : Int} (h : ckL l x y = 0) : l.length ≤ 8 ∧ Ok l ∧ ckS x y = 0 := by
  unfold ckL at h
  split at h
  · omega
  · split at h
    · rename_i h1 h2
      exact ⟨by omega, all_ok.1 h2, h⟩
    · omega
theorem ckL_cases (l : List (Int × Int)) (x y : Int) : ckL l x y = 0 ∨ ckL l x y = 3 ∨ ckL l x y = 20 := by
  unfold ckL
  split
  · omega
  · split
    · rcases ckS_cases x y with h | h <;> omega
    · omega

/-- What Eval gives. -/
def evR (l : List (Int × Int)) (x y : Int) : Int × Int × Int := if ckL l x y = 0 then pvl x y l else (0, 0, ckL l x y)

/-- The coefficients of the derivative, from the k-th one on; and the first error. -/
def scV : Nat → List (Int × Int) → List (Int × Int)
  | _, [] => []
  | k, c :: l => ((sScaleR c.1 c.2 k 1).1, (sScaleR c.1 c.2 k 1).2.1) :: scV (k + 1) l
def scE : Nat → List (Int × Int) → Int
  | _, [] => 0
  | k, c :: l => if (sScaleR c.1 c.2 k 1).2.2 = 0 then scE (k + 1) l else (sScaleR c.1 c.2 k 1).2.2
theorem scV_length : ∀ (k : Nat) (l : List (Int × Int)), (scV k l).length = l.length
  | _, [] => rfl
  | k, _ :: l => by simp [scV, scV_length (k + 1) l]
theorem scV_at : ∀ (k : Nat) (l : List (Int × Int)) (i : Nat), i < l.length → pf (scV k l) i = ((sScaleR (pf l i).1 (pf l i).2 ((k + i : Nat) : Int) 1).1, (sScaleR (pf l i).1 (pf l i).2 ((k + i : Nat) : Int) 1).2.1)
  | _, [], _, h => absurd h (by simp)
  | k, c :: l, 0, _ => by simp [scV, pf]
  | k, c :: l, i + 1, h => by
    rw [scV, pf_cons_succ, pf_cons_succ, scV_at (k + 1) l i (by simpa using h), show k + 1 + i = k + (i + 1) by omega]
theorem scE_none : ∀ (k : Nat) (l : List (Int × Int)), (∀ i, i < l.length → (sScaleR (pf l i).1 (pf l i).2 ((k + i : Nat) : Int) 1).2.2 = 0) → scE k l = 0
  | _, [], _ => rfl
  | k, c :: l, h => by
    have h0 := h 0 (by simp)
    unfold scE
    rw [if_pos (by simpa [pf] using h0)]
    refine scE_none (k + 1) l fun i hi => ?_
    have := h (i + 1) (by simpa using hi)
    rw [pf_cons_succ] at this
    rw [show k + 1 + i = k + (i + 1) by omega]; exact this
theorem scE_at : ∀ (k : Nat) (l : List (Int × Int)) (j : Nat), j < l.length → (∀ i, i < j → (sScaleR (pf l i).1 (pf l i).2 ((k + i : Nat) : Int) 1).2.2 = 0) → (sScaleR (pf l j).1 (pf l j).2 ((k + j : Nat) : Int) 1).2.2 ≠ 0 → scE k l = (sScaleR (pf l j).1 (pf l j).2 ((k + j : Nat) : Int) 1).2.2
  | _, [], _, h, _, _ => absurd h (by simp)
  | k, c :: l, 0, _, _, e => by
    have e' : (sScaleR c.1 c.2 k 1).2.2 ≠ 0 := by simpa [pf] using e
    unfold scE; rw [if_neg e']; simp [pf]
  | k, c :: l, j + 1, h, h0, e => by
    have hz := h0 0 (by omega)
    unfold scE
    rw [if_pos (by simpa [pf] using hz), pf_cons_succ, show k + (j + 1) = k + 1 + j by omega]
    refine scE_at (k + 1) l j (by simpa using h) (fun i hi => ?_) (by rw [pf_cons_succ, show k + (j + 1) = k + 1 + j by omega] at e; exact e)
    have := h0 (i + 1) (by omega)
    rw [pf_cons_succ, show k + (i + 1) = k + 1 + i by omega] at this; exact this
theorem scE_zero : ∀ {k : Nat} {l : List (Int × Int)}, scE k l = 0 → ∀ i, i < l.length → (sScaleR (pf l i).1 (pf l i).2 ((k + i : Nat) : Int) 1).2.2 = 0
  | _, [], _, _, h => absurd h (by simp)
  | k, c :: l, e, i, h => by
    unfold scE at e
    by_cases z : (sScaleR c.1 c.2 k 1).2.2 = 0
    · rw [if_pos z] at e
      match i, h with
      | 0, _ => simpa [pf] using z
      | i + 1, h => rw [pf_cons_succ, show k + (i + 1) = k + 1 + i by omega]; exact scE_zero e i (by simpa using h)
    · rw [if_neg z] at e; exact absurd e z
/-- What Slope gives. -/
def slR (l : List (Int × Int)) (x y : Int) : Int × Int × Int := if ckL l x y = 0 then (if scE 1 (l.drop 1) = 0 then pvl x y (scV 1 (l.drop 1)) else (0, 0, scE 1 (l.drop 1))) else (0, 0, ckL l x y)

/-- A number times k, where k is a small number. -/
theorem scale_num {a : Int} {k : Nat} (a0 : -4503599627370496 ≤ a) (a1 : a ≤ 4503599627370496) (k1 : k ≤ 100) (to : Bool) : scaleR to a k 1 = lim (a * k) := by
  have ce : ckErr a = 0 := by unfold ckErr; rw [if_neg (by omega)]
  have e := rq_exact to (a * k) 1 (by omega)
  rw [Int.mul_one] at e
  unfold scaleR; rw [if_pos ⟨ce, by omega, by omega, by omega, by omega⟩, e]
theorem scale_ok {a b : Int} {k : Nat} (h : ckS a b = 0) (k1 : k ≤ 100) (e : (sScaleR a b k 1).2.2 = 0) : sScaleR a b k 1 = (a * k, b * k, 0) ∧ ckS (a * k) (b * k) = 0 := by
  have v := valS h
  unfold sScaleR at e ⊢
  rw [if_pos h, if_neg (by omega), scale_num (by omega) (by omega) k1, scale_num (by omega) (by omega) k1] at e ⊢
  obtain ⟨L, hL⟩ : ∃ L, btw (lim (a * k)) (lim (b * k)) = L := ⟨_, rfl⟩
  rw [hL] at e ⊢
  have e0 : btw (lim (a * k)) (lim (b * k)) = (L.1, L.2.1, 0) := by rw [hL]; exact Prod.ext rfl (Prod.ext rfl e)
  obtain ⟨e1, e2, e3, e4⟩ := btw_ok e0
  have l1 := lim_val e1
  have l2 := lim_val e2
  have hm : a * k ≤ b * k := Int.mul_le_mul_of_nonneg_right v.2.1 (by omega)
  refine ⟨?_, ckS_ok (by omega) hm (by omega)⟩
  refine Prod.ext (by simp only []; omega) (Prod.ext (by simp only []; omega) e)
theorem scale_mk {a b : Int} {k : Nat} (h : ckS a b = 0) (k1 : k ≤ 100) (h0 : -4503599627370496 ≤ a * k) (h1 : b * k ≤ 4503599627370496) : sScaleR a b k 1 = (a * k, b * k, 0) := by
  have v := valS h
  have hm : a * k ≤ b * k := Int.mul_le_mul_of_nonneg_right v.2.1 (by omega)
  unfold sScaleR
  rw [if_pos h, if_neg (by omega), scale_num (by omega) (by omega) k1, scale_num (by omega) (by omega) k1, lim_ok (by omega) (by omega), lim_ok (by omega) (by omega), btw_mk rfl rfl]
theorem nar_scale {a b p q : Int} {k : Nat} (h : ckS a b = 0) (p0 : a ≤ p) (p1 : p ≤ q) (p2 : q ≤ b) (k1 : k ≤ 100) (e : (sScaleR a b k 1).2.2 = 0) : sScaleR p q k 1 = (p * k, q * k, 0) ∧ a * k ≤ p * k ∧ q * k ≤ b * k := by
  have v := valS h
  obtain ⟨_, v2⟩ := scale_ok h k1 e
  have v3 := valS v2
  have m1 : a * k ≤ p * k := Int.mul_le_mul_of_nonneg_right p0 (by omega)
  have m2 : q * k ≤ b * k := Int.mul_le_mul_of_nonneg_right p2 (by omega)
  exact ⟨scale_mk (ckS_ok (by omega) p1 (by omega)) k1 (by omega) (by omega), m1, m2⟩

/-- Intervals within intervals, one by one. -/
def Nrw : List (Int × Int) → List (Int × Int) → Prop
  | [], [] => True
  | a :: l, p :: m => (a.1 ≤ p.1 ∧ p.1 ≤ p.2 ∧ p.2 ≤ a.2) ∧ Nrw l m
  | _, _ => False
theorem Nrw.length : ∀ {l m : List (Int × Int)}, Nrw l m → l.length = m.length
  | [], [], _ => rfl
  | _ :: _, _ :: _, h => by simp [Nrw.length h.2]
  | [], _ :: _, h => h.elim
  | _ :: _, [], h => h.elim
theorem Nrw.of : ∀ {l m : List (Int × Int)}, l.length = m.length → (∀ i, i < l.length → (pf l i).1 ≤ (pf m i).1 ∧ (pf m i).1 ≤ (pf m i).2 ∧ (pf m i).2 ≤ (pf l i).2) → Nrw l m
  | [], [], _, _ => trivial
  | a :: l, p :: m, hl, h => ⟨by simpa [pf] using h 0 (by simp), Nrw.of (by simpa using hl) fun i hi => by have := h (i + 1) (by simpa using hi); rwa [pf_cons_succ, pf_cons_succ] at this⟩
  | [], _ :: _, hl, _ => by simp at hl
  | _ :: _, [], hl, _ => by simp at hl
theorem Nrw.ok : ∀ {l m : List (Int × Int)}, Nrw l m → Ok l → Ok m
  | [], [], _, h => h
  | a :: l, p :: m, h, k => by
    have v := valS k.head
    have h1 : a.1 ≤ p.1 ∧ p.1 ≤ p.2 ∧ p.2 ≤ a.2 := h.1
    intro c hc
    rcases List.mem_cons.1 hc with e | hc
    · rw [e]; exact ckS_ok (by omega) (by omega) (by omega)
    · exact Nrw.ok h.2 k.tail c hc
  | [], _ :: _, h, _ => h.elim
  | _ :: _, [], h, _ => h.elim
/-- The errors that steps can have. -/
theorem hst_nar {x y s t : Int} {v u : Int × Int × Int} {c d : Int × Int} (kx : ckS x y = 0) (x0 : x ≤ s) (x1 : s ≤ t) (x2 : t ≤ y) (kc : ckS c.1 c.2 = 0) (c0 : c.1 ≤ d.1) (c1 : d.1 ≤ d.2) (c2 : d.2 ≤ c.2)
    (kv : ckS v.1 v.2.1 = 0) (ku : ckS u.1 u.2.1 = 0) (h : Ins u v) : Ins (hst s t u d) (hst x y v c) := by
  have vs := valS kx
  have kst : ckS s t = 0 := ckS_ok (by omega) x1 (by omega)
  unfold hst
  by_cases z : v.2.2 = 0
  · rcases h with h | ⟨h0, h1, h2⟩
    · exact absurd z h
    rw [if_pos z, if_pos h0]
    have vu := valS ku
    have hm := nar_mul kv kx h1 vu.2.1 h2 x0 x1 x2
    by_cases zm : (sMulR v.1 v.2.1 x y).2.2 = 0
    · rcases hm with hm | ⟨m0, m1, m2⟩
      · exact absurd zm hm
      rw [if_pos zm, if_pos m0]
      have k1 := py_mul_val kv kx
      have k2 := py_mul_val ku kst
      have v2 := valS k2
      exact nar_add k1 kc m1 v2.2.1 m2 c0 c1 c2
    · rw [if_neg zm]; exact .inl zm
  · rw [if_neg z]; exact .inl z
theorem pvl_nar {x y s t : Int} (kx : ckS x y = 0) (x0 : x ≤ s) (x1 : s ≤ t) (x2 : t ≤ y) : ∀ {l m : List (Int × Int)}, Nrw l m → Ok l → Ins (pvl s t m) (pvl x y l)
  | [], [], _, _ => .inr ⟨rfl, Int.le_refl _, Int.le_refl _⟩
  | c :: l, d :: m, h, k => by
    have hm := Nrw.ok h k
    have v := valS kx
    have kst : ckS s t = 0 := ckS_ok (by omega) x1 (by omega)
    by_cases e : l = []
    · subst e
      have : m = [] := List.length_eq_zero_iff.1 (by have := h.2.length; simpa using this.symm)
      subst this
      rw [pvl_one, pvl_one]
      exact .inr ⟨rfl, h.1.1, h.1.2.2⟩
    · have e' : m ≠ [] := fun e2 => e (List.length_eq_zero_iff.1 (by have := h.2.length; rw [e2] at this; simpa using this))
      rw [pvl_cons _ _ _ e, pvl_cons _ _ _ e']
      exact hst_nar kx x0 x1 x2 k.head h.1.1 h.1.2.1 h.1.2.2 (pvl_val kx k.tail) (pvl_val kst hm.tail) (pvl_nar kx x0 x1 x2 h.2 k.tail)
  | [], _ :: _, h, _ => h.elim
  | _ :: _, [], h, _ => h.elim
theorem scV_nar : ∀ {k : Nat} {l m : List (Int × Int)}, k + l.length ≤ 100 → Nrw l m → Ok l → scE k l = 0 → scE k m = 0 ∧ Nrw (scV k l) (scV k m) ∧ Ok (scV k l)
  | _, [], [], _, _, _, _ => ⟨rfl, trivial, fun c hc => by cases hc⟩
  | k, a :: l, p :: m, hk, h, hk0, e => by
    unfold scE at e
    simp only [List.length_cons] at hk
    by_cases z : (sScaleR a.1 a.2 k 1).2.2 = 0
    · rw [if_pos z] at e
      obtain ⟨r1, r2, r3⟩ := scV_nar (k := k + 1) (by omega) h.2 hk0.tail e
      obtain ⟨s1, s2⟩ := scale_ok hk0.head (by omega) z
      obtain ⟨t1, t2, t3⟩ := nar_scale hk0.head h.1.1 h.1.2.1 h.1.2.2 (by omega) z
      have hm : p.1 * k ≤ p.2 * k := Int.mul_le_mul_of_nonneg_right h.1.2.1 (by omega)
      refine ⟨?_, ?_, ?_⟩
      · unfold scE; rw [t1, if_pos rfl]; exact r1
      · unfold scV; rw [s1, t1]; exact ⟨⟨t2, hm, t3⟩, r2⟩
      · unfold scV; rw [s1]
        intro c hc
        rcases List.mem_cons.1 hc with rfl | hc
        · exact s2
        · exact r3 c hc
    · rw [if_neg z] at e; exact absurd e z
  | _, [], _ :: _, _, h, _, _ => h.elim
  | _, _ :: _, [], _, h, _, _ => h.elim
theorem Nrw.tail : ∀ {l m : List (Int × Int)}, Nrw l m → Nrw (l.drop 1) (m.drop 1)
  | [], [], h => h
  | _ :: _, _ :: _, h => h.2
  | [], _ :: _, h => h.elim
  | _ :: _, [], h => h.elim
theorem Ok.drop1 {l : List (Int × Int)} (h : Ok l) : Ok (l.drop 1) := fun c hc => h c (List.mem_of_mem_drop hc)
theorem ev_nar {x y s t : Int} (kx : ckS x y = 0) (x0 : x ≤ s) (x1 : s ≤ t) (x2 : t ≤ y) {l m : List (Int × Int)} (h : Nrw l m) (k : Ok l) (hl : l.length ≤ 8) : Ins (evR m s t) (evR l x y) := by
  have v := valS kx
  have kst : ckS s t = 0 := ckS_ok (by omega) x1 (by omega)
  have h8 : m.length ≤ 8 := by rw [← h.length]; exact hl
  unfold evR
  rw [ckL_ok _ _ hl k, ckL_ok _ _ h8 (h.ok k), if_pos kx, if_pos kst]
  exact pvl_nar kx x0 x1 x2 h k
theorem sl_nar {x y s t : Int} (kx : ckS x y = 0) (x0 : x ≤ s) (x1 : s ≤ t) (x2 : t ≤ y) {l m : List (Int × Int)} (h : Nrw l m) (k : Ok l) (hl : l.length ≤ 8) : Ins (slR m s t) (slR l x y) := by
  have v := valS kx
  have kst : ckS s t = 0 := ckS_ok (by omega) x1 (by omega)
  have h8 : m.length ≤ 8 := by rw [← h.length]; exact hl
  unfold slR
  rw [ckL_ok _ _ hl k, ckL_ok _ _ h8 (h.ok k), if_pos kx, if_pos kst]
  by_cases z : scE 1 (l.drop 1) = 0
  · obtain ⟨r1, r2, r3⟩ := scV_nar (k := 1) (by simp; omega) h.tail k.drop1 z
    rw [if_pos z, if_pos r1]
    exact pvl_nar kx x0 x1 x2 r2 r3
  · rw [if_neg z]; exact .inl z
end Go.Proofs.Ytdaignklmbmcnaa
