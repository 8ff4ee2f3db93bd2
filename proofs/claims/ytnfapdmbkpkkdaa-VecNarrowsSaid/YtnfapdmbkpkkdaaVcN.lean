/-
  Mathematics of vectors of intervals: orders, negatives.
-/
import Derived.Test.YtnfapdmbkpkkdaaVcF
import Derived.Test.YtnfapdmbkpkkdaaSpMb
namespace Go.Proofs.Ytnfapdmbkpkkdaa

theorem ck2S_comm (a b c d : Int) : ck2S c d a b = ck2S a b c d := by
  unfold ck2S
  rcases ckS_cases a b with ⟨h, _⟩ | ⟨h, _⟩ <;> rcases ckS_cases c d with ⟨k, _⟩ | ⟨k, _⟩ <;> simp [h, k]
theorem ck2S_ok {a b c d : Int} (h : ck2S a b c d = 0) : ckS a b = 0 ∧ ckS c d = 0 := by
  unfold ck2S at h
  rcases ckS_cases a b with ⟨k, _⟩ | ⟨k, _⟩
  · rw [if_pos k] at h; exact ⟨k, h⟩
  · rw [if_neg (by omega)] at h; cases h
def negS (r : Int × Int × Int) : Int × Int × Int := (-r.2.1, -r.1, r.2.2)
def negV (q : VR) : VR := ⟨-q.x1, -q.x0, -q.y1, -q.y0, -q.z1, -q.z0, q.e⟩
theorem limS_neg (l h : Int) : limS (-h) (-l) = negS (limS l h) := by
  unfold limS negS
  rcases ckS_cases l h with ⟨k, h0, h1, h2⟩ | ⟨k, h0⟩
  · rw [if_pos k, ckS_ok (by omega) (by omega) (by omega), if_pos rfl]
  · have k' : ckS (-h) (-l) = 20 := ckS_no (by omega)
    rw [if_neg (by omega), if_neg (by omega)]; rfl
theorem sub_swap (a b c d : Int) : sSubR c d a b = negS (sSubR a b c d) := by
  unfold sSubR
  rw [ck2S_comm]
  by_cases k : ck2S a b c d = 0
  · rw [if_pos k, if_pos k, ← limS_neg]
    congr 1 <;> omega
  · rw [if_neg k, if_neg k]; rfl
theorem add_comm3 (a b c d : Int) : sAddR c d a b = sAddR a b c d := by
  unfold sAddR
  rw [ck2S_comm, Int.add_comm c a, Int.add_comm d b]
theorem mul_comm3 (a b c d : Int) : sMulR c d a b = sMulR a b c d := by
  by_cases k : ck2S a b c d = 0
  · have := ck2S_ok k
    exact mul_comm2 a b c d this.1 this.2
  · unfold sMulR
    rw [ck2S_comm, if_neg k, if_neg k]
theorem ckV_cases (a0 a1 a2 a3 a4 a5 : Int) : ckV a0 a1 a2 a3 a4 a5 = 0 ∨ ckV a0 a1 a2 a3 a4 a5 = 20 := by unfold ckV; split <;> omega
theorem fo_comm {x y : Int} (k : Int) (hx : x = 0 ∨ x = k) (hy : y = 0 ∨ y = k) : fo x y = fo y x := by
  unfold fo
  by_cases h0 : x = 0 <;> by_cases h1 : y = 0 <;> simp [h0, h1] <;> omega
theorem fo_ck (a0 a1 a2 a3 a4 a5 d0 d1 d2 d3 d4 d5 : Int) : fo (ckV d0 d1 d2 d3 d4 d5) (ckV a0 a1 a2 a3 a4 a5) = fo (ckV a0 a1 a2 a3 a4 a5) (ckV d0 d1 d2 d3 d4 d5) :=
  fo_comm 20 (ckV_cases _ _ _ _ _ _) (ckV_cases _ _ _ _ _ _)
theorem vAdd_comm (a0 a1 a2 a3 a4 a5 d0 d1 d2 d3 d4 d5 : Int) : vAddR d0 d1 d2 d3 d4 d5 a0 a1 a2 a3 a4 a5 = vAddR a0 a1 a2 a3 a4 a5 d0 d1 d2 d3 d4 d5 := by
  have e : vPairR sAddR d0 d1 d2 d3 d4 d5 a0 a1 a2 a3 a4 a5 = vPairR sAddR a0 a1 a2 a3 a4 a5 d0 d1 d2 d3 d4 d5 := by
    unfold vPairR
    rw [add_comm3 a0 a1 d0 d1, add_comm3 a2 a3 d2 d3, add_comm3 a4 a5 d4 d5]
  unfold vAddR
  rw [e, fo_ck]
theorem vDot_comm (a0 a1 a2 a3 a4 a5 d0 d1 d2 d3 d4 d5 : Int) : vDotR d0 d1 d2 d3 d4 d5 a0 a1 a2 a3 a4 a5 = vDotR a0 a1 a2 a3 a4 a5 d0 d1 d2 d3 d4 d5 := by
  have e : vPairR sMulR d0 d1 d2 d3 d4 d5 a0 a1 a2 a3 a4 a5 = vPairR sMulR a0 a1 a2 a3 a4 a5 d0 d1 d2 d3 d4 d5 := by
    unfold vPairR
    rw [mul_comm3 a0 a1 d0 d1, mul_comm3 a2 a3 d2 d3, mul_comm3 a4 a5 d4 d5]
  unfold vDotR
  rw [e, fo_ck]
theorem told_neg (k : Int) (q : VR) : vTold k (negV q) = negV (vTold k q) := by
  unfold vTold negV
  by_cases h : k = 0
  · rw [if_pos h, if_pos h]
  · rw [if_neg h, if_neg h]; rfl
theorem vSub_swap (a0 a1 a2 a3 a4 a5 d0 d1 d2 d3 d4 d5 : Int) : vSubR d0 d1 d2 d3 d4 d5 a0 a1 a2 a3 a4 a5 = negV (vSubR a0 a1 a2 a3 a4 a5 d0 d1 d2 d3 d4 d5) := by
  have e : vPairR sSubR d0 d1 d2 d3 d4 d5 a0 a1 a2 a3 a4 a5 = negV (vPairR sSubR a0 a1 a2 a3 a4 a5 d0 d1 d2 d3 d4 d5) := by
    unfold vPairR
    rw [sub_swap a0 a1 d0 d1, sub_swap a2 a3 d2 d3, sub_swap a4 a5 d4 d5]
    rfl
  unfold vSubR
  rw [e, fo_ck, told_neg]
  rfl
theorem fo_six {x y : Int} (hx : x = 0 ∨ x = 6) (hy : y = 0 ∨ y = 6) : fo x y = 0 ∨ fo x y = 6 := by
  unfold fo; split <;> omega
theorem lim_six (q : Int) : (lim q).2 = 0 ∨ (lim q).2 = 6 := by unfold lim; split <;> simp
theorem limS_six (l h : Int) : (limS l h).2.2 = 0 ∨ (limS l h).2.2 = 6 := by unfold limS; split <;> simp
/-- The error of a product of valid intervals. -/
theorem mul_six {a b c d : Int} (k : ckS a b = 0) (k' : ckS c d = 0) : (sMulR a b c d).2.2 = 0 ∨ (sMulR a b c d).2.2 = 6 := by
  have va := valS k
  have vb := valS k'
  have hat : ∀ x y : Int, (x = a ∨ x = b) → (y = c ∨ y = d) → (atR (mulR false x y) (mulR true x y)).2.2 = 0 ∨ (atR (mulR false x y) (mulR true x y)).2.2 = 6 := fun x y hx hy => by
    rw [mulR_in false (by omega) (by omega) (by omega) (by omega), mulR_in true (by omega) (by omega) (by omega) (by omega)]
    unfold atR
    split
    · exact lim_six _
    · exact lim_six _
  unfold sMulR
  rw [if_pos (val2 k k')]
  have h1 := hat a c (.inl rfl) (.inl rfl)
  have h2 := hat a d (.inl rfl) (.inr rfl)
  have h3 := hat b c (.inr rfl) (.inl rfl)
  have h4 := hat b d (.inr rfl) (.inr rfl)
  have he : errOf (four (fun x y => atR (mulR false x y) (mulR true x y)) a b c d) = fo (fo (fo (fo 0 (atR (mulR false a c) (mulR true a c)).2.2) (atR (mulR false a d) (mulR true a d)).2.2) (atR (mulR false b c) (mulR true b c)).2.2) (atR (mulR false b d) (mulR true b d)).2.2 := rfl
  have h5 := fo_six (fo_six (fo_six (fo_six (.inl rfl) h1) h2) h3) h4
  rw [← he] at h5
  unfold ovR
  split
  · exact .inl rfl
  · exact h5
theorem sub_six {a b c d : Int} (h : ck2S a b c d = 0) : (sSubR a b c d).2.2 = 0 ∨ (sSubR a b c d).2.2 = 6 := by
  unfold sSubR; rw [if_pos h]; exact limS_six _ _
theorem sub_val (a b c d : Int) : ckS (sSubR a b c d).1 (sSubR a b c d).2.1 = 0 := by
  unfold sSubR
  split
  · unfold limS
    split
    · assumption
    · decide
  · decide
/-- A product and a difference of two products, the other way round. -/
theorem comp_swap (a a' b b' c c' d d' : Int) (ka : ckS a a' = 0) (kb : ckS b b' = 0) (kc : ckS c c' = 0) (kd : ckS d d' = 0) : vCompR d d' c c' b b' a a' = negS (vCompR a a' b b' c c' d d') := by
  have h1 := mul_six ka kb
  have h2 := mul_six kc kd
  unfold vCompR vCompM
  rw [mul_comm3 c c' d d', mul_comm3 a a' b b', sub_swap]
  have e : ∀ s : Int, fo (sMulR c c' d d').2.2 (fo (sMulR a a' b b').2.2 s) = fo (sMulR a a' b b').2.2 (fo (sMulR c c' d d').2.2 s) := fun s => by
    rw [← fo_assoc, ← fo_assoc, fo_comm 6 h2 h1]
  rw [show (negS (sSubR (sMulR a a' b b').1 (sMulR a a' b b').2.1 (sMulR c c' d d').1 (sMulR c c' d d').2.1)).2.2 = (sSubR (sMulR a a' b b').1 (sMulR a a' b b').2.1 (sMulR c c' d d').1 (sMulR c c' d d').2.1).2.2 from rfl, e]
  rfl
theorem ckV_ok {a0 a1 a2 a3 a4 a5 : Int} (h : ckV a0 a1 a2 a3 a4 a5 = 0) : ckS a0 a1 = 0 ∧ ckS a2 a3 = 0 ∧ ckS a4 a5 = 0 := by
  unfold ckV at h
  split at h
  · assumption
  · cases h
theorem vCross_swap (a0 a1 a2 a3 a4 a5 d0 d1 d2 d3 d4 d5 : Int) (ka : ckV a0 a1 a2 a3 a4 a5 = 0) (kd : ckV d0 d1 d2 d3 d4 d5 = 0) : vCrossR d0 d1 d2 d3 d4 d5 a0 a1 a2 a3 a4 a5 = negV (vCrossR a0 a1 a2 a3 a4 a5 d0 d1 d2 d3 d4 d5) := by
  obtain ⟨A0, A1, A2⟩ := ckV_ok ka
  obtain ⟨D0, D1, D2⟩ := ckV_ok kd
  have e : vCrossQ d0 d1 d2 d3 d4 d5 a0 a1 a2 a3 a4 a5 = negV (vCrossQ a0 a1 a2 a3 a4 a5 d0 d1 d2 d3 d4 d5) := by
    unfold vCrossQ
    rw [comp_swap a2 a3 d4 d5 a4 a5 d2 d3 A1 D2 A2 D1, comp_swap a4 a5 d0 d1 a0 a1 d4 d5 A2 D0 A0 D2, comp_swap a0 a1 d2 d3 a2 a3 d0 d1 A0 D1 A1 D0]
    rfl
  unfold vCrossR
  rw [e, fo_ck, told_neg]
  rfl
/-- Components that are valid intervals. -/
def VOk (q : VR) : Prop := ckS q.x0 q.x1 = 0 ∧ ckS q.y0 q.y1 = 0 ∧ ckS q.z0 q.z1 = 0
theorem told_ok {q : VR} (k : Int) (h : VOk q) : VOk (vTold k q) := by
  unfold vTold
  split
  · exact h
  · have z : ckS 0 0 = 0 := by decide
    exact ⟨z, z, z⟩
theorem vSub_ok (a0 a1 a2 a3 a4 a5 d0 d1 d2 d3 d4 d5 : Int) : VOk (vSubR a0 a1 a2 a3 a4 a5 d0 d1 d2 d3 d4 d5) := told_ok _ ⟨sub_val _ _ _ _, sub_val _ _ _ _, sub_val _ _ _ _⟩
theorem vCross_ok (a0 a1 a2 a3 a4 a5 d0 d1 d2 d3 d4 d5 : Int) : VOk (vCrossR a0 a1 a2 a3 a4 a5 d0 d1 d2 d3 d4 d5) := told_ok _ ⟨sub_val _ _ _ _, sub_val _ _ _ _, sub_val _ _ _ _⟩
theorem ckS_neg {l h : Int} (k : ckS l h = 0) : ckS (-h) (-l) = 0 := by
  have := valS k
  exact ckS_ok (by omega) (by omega) (by omega)
theorem vNeg_val {a0 a1 a2 a3 a4 a5 : Int} (k : ckV a0 a1 a2 a3 a4 a5 = 0) : vNegR a0 a1 a2 a3 a4 a5 = ⟨-a1, -a0, -a3, -a2, -a5, -a4, 0⟩ := by
  obtain ⟨k0, k1, k2⟩ := ckV_ok k
  have e : ∀ {l h : Int}, ckS l h = 0 → sNegR l h = (-h, -l, 0) := fun k => by unfold sNegR; rw [if_pos k]
  unfold vNegR vEachR
  rw [k, e k0, e k1, e k2]
  rfl
/-- The negative of the negative of a valid vector. -/
theorem vNeg_neg {q : VR} (h : VOk q) : vNegR (-q.x1) (-q.x0) (-q.y1) (-q.y0) (-q.z1) (-q.z0) = ⟨q.x0, q.x1, q.y0, q.y1, q.z0, q.z1, 0⟩ := by
  have k : ckV (-q.x1) (-q.x0) (-q.y1) (-q.y0) (-q.z1) (-q.z0) = 0 := if_pos ⟨ckS_neg h.1, ckS_neg h.2.1, ckS_neg h.2.2⟩
  rw [vNeg_val k]
  simp
theorem vAdd_neg {a0 a1 a2 a3 a4 a5 d0 d1 d2 d3 d4 d5 : Int} (ka : ckV a0 a1 a2 a3 a4 a5 = 0) (kd : ckV d0 d1 d2 d3 d4 d5 = 0) : vAddR a0 a1 a2 a3 a4 a5 (-d1) (-d0) (-d3) (-d2) (-d5) (-d4) = vSubR a0 a1 a2 a3 a4 a5 d0 d1 d2 d3 d4 d5 := by
  obtain ⟨A0, A1, A2⟩ := ckV_ok ka
  obtain ⟨D0, D1, D2⟩ := ckV_ok kd
  have e : ∀ {a b c d : Int}, ckS a b = 0 → ckS c d = 0 → sAddR a b (-d) (-c) = sSubR a b c d := fun {a b c d} k k' => by
    unfold sAddR sSubR
    rw [if_pos (val2 k (ckS_neg k')), if_pos (val2 k k')]
    congr 1
  have kn : ckV (-d1) (-d0) (-d3) (-d2) (-d5) (-d4) = 0 := if_pos ⟨ckS_neg D0, ckS_neg D1, ckS_neg D2⟩
  unfold vAddR vSubR vPairR
  rw [kn, kd, e A0 D0, e A1 D1, e A2 D2]
end Go.Proofs.Ytnfapdmbkpkkdaa
