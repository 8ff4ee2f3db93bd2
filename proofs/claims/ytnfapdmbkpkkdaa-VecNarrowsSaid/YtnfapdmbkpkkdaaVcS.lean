/-
  Mathematics of VecNarrows: vectors within vectors.
-/
import Derived.Test.YtnfapdmbkpkkdaaVcR
namespace Go.Proofs.Ytnfapdmbkpkkdaa

/-- A valid interval, and another one within it. -/
def Wi (a b p q : Int) : Prop := ckS a b = 0 ∧ a ≤ p ∧ p ≤ q ∧ q ≤ b
theorem Wi.ck {a b p q : Int} (h : Wi a b p q) : ckS p q = 0 := by
  have := valS h.1
  obtain ⟨_, h1, h2, h3⟩ := h
  exact ckS_ok (by omega) h2 (by omega)
def Nv (r s : Int × Int × Int) : Prop := s.2.2 = 0 → r.2.2 = 0 ∧ Wi s.1 s.2.1 r.1 r.2.1
theorem nv_of {r s : Int × Int × Int} (h : Ins r s) (v : s.2.2 = 0 → ckS s.1 s.2.1 = 0) (v' : r.2.2 = 0 → ckS r.1 r.2.1 = 0) : Nv r s := fun e => by
  rcases h with h | ⟨h1, h2, h3⟩
  · exact absurd e h
  · have := valS (v' h1)
    exact ⟨h1, v e, h2, this.2.1, h3⟩
theorem add_val (a b c d : Int) : ckS (sAddR a b c d).1 (sAddR a b c d).2.1 = 0 := by
  unfold sAddR
  split
  · unfold limS
    split
    · assumption
    · decide
  · decide
theorem mulR_bd2 (up : Bool) (x y : Int) : -4503599627370496 ≤ (mulR up x y).1 ∧ (mulR up x y).1 ≤ 4503599627370496 := by
  unfold mulR
  split
  · exact lim_bd _
  · simp
theorem sqr_val {a b : Int} (k : ckS a b = 0) (e : (sSqrR a b).2.2 = 0) : ckS (sSqrR a b).1 (sSqrR a b).2.1 = 0 := by
  have va := valS k
  have s := sqr_sc k e (Int.le_refl a) va.2.1
  have e' := trip e
  unfold sSqrR at e'
  rw [if_pos k] at e'
  obtain ⟨_, _, e3, e4⟩ := btw_ok e'
  have b1 := mulR_bd2 false (magR a b).1 (magR a b).1
  have b2 := mulR_bd2 true (magR a b).2 (magR a b).2
  rw [e3] at b1
  rw [e4] at b2
  unfold sSqrR at s
  rw [if_pos k] at s
  unfold sSqrR
  rw [if_pos k]
  generalize a * a = z at *
  exact ckS_ok (by omega) (by omega) (by omega)
theorem sqrt_val {a b : Int} (k : ckS a b = 0) (e : (sSqrtR a b).2.2 = 0) : ckS (sSqrtR a b).1 (sSqrtR a b).2.1 = 0 := by
  have va := valS k
  have s := sqrt_sc (P := a * 4294967296) e (Int.le_refl _) (by omega)
  have e' := trip e
  have h1 := le_of_sq s.2.1 (Int.le_trans s.1.2 s.2.2)
  have h2 : (sSqrtR a b).2.1 ≤ 8796093022208 := by
    generalize (sSqrtR a b).2.1 = h at *
    generalize (sSqrtR a b).1 = l at *
    unfold sSqrtR at e'
    rw [if_pos k] at e'
    obtain ⟨_, e2, _, e4⟩ := btw_ok e'
    obtain ⟨v2, w2⟩ := sqrtR_val e2
    rw [w2] at e4
    have i := isqrt_spec (b * 4294967296) (by omega) (by omega)
    unfold rootR at e4
    split at e4 <;> omega
  exact ckS_ok (by omega) h1 (by omega)
theorem nv_add {a b c d p q r s : Int} (h : Wi a b p q) (k : Wi c d r s) : Nv (sAddR p q r s) (sAddR a b c d) :=
  nv_of (nar_add h.1 k.1 h.2.1 h.2.2.1 h.2.2.2 k.2.1 k.2.2.1 k.2.2.2) (fun _ => add_val _ _ _ _) (fun _ => add_val _ _ _ _)
theorem nv_sub {a b c d p q r s : Int} (h : Wi a b p q) (k : Wi c d r s) : Nv (sSubR p q r s) (sSubR a b c d) :=
  nv_of (nar_sub h.1 k.1 h.2.1 h.2.2.1 h.2.2.2 k.2.1 k.2.2.1 k.2.2.2) (fun _ => sub_val _ _ _ _) (fun _ => sub_val _ _ _ _)
theorem nv_mul {a b c d p q r s : Int} (h : Wi a b p q) (k : Wi c d r s) : Nv (sMulR p q r s) (sMulR a b c d) :=
  nv_of (nar_mul h.1 k.1 h.2.1 h.2.2.1 h.2.2.2 k.2.1 k.2.2.1 k.2.2.2) (fun _ => mul_val h.1 k.1) (fun _ => mul_val h.ck k.ck)
theorem nv_sqr {a b p q : Int} (h : Wi a b p q) : Nv (sSqrR p q) (sSqrR a b) :=
  nv_of (nar_sqr h.1 h.2.1 h.2.2.1 h.2.2.2) (fun e => sqr_val h.1 e) (fun e => sqr_val h.ck e)
theorem nv_sqrt {a b p q : Int} (h : Wi a b p q) : Nv (sSqrtR p q) (sSqrtR a b) :=
  nv_of (nar_sqrt h.1 h.2.1 h.2.2.1 h.2.2.2) (fun e => sqrt_val h.1 e) (fun e => sqrt_val h.ck e)
theorem nv_sum {a0 a1 a2 a3 a4 a5 p0 p1 p2 p3 p4 p5 : Int} (h0 : Wi a0 a1 p0 p1) (h1 : Wi a2 a3 p2 p3) (h2 : Wi a4 a5 p4 p5) : Nv (vSumR p0 p1 p2 p3 p4 p5) (vSumR a0 a1 a2 a3 a4 a5) := by
  intro e
  unfold vSumR at e ⊢
  obtain ⟨e1, e2⟩ := fo_both e
  obtain ⟨f1, w1⟩ := nv_add h0 h1 e1
  obtain ⟨f2, w2⟩ := nv_add w1 h2 e2
  exact ⟨by simp only []; rw [f1, f2]; rfl, w2⟩
/-- Intervals that lie in those of a result, which need not be valid. -/
def Wn (a b p q : Int) : Prop := a ≤ p ∧ q ≤ b
def NvV (r s : VR) : Prop := s.e = 0 → r.e = 0 ∧ Wi s.x0 s.x1 r.x0 r.x1 ∧ Wi s.y0 s.y1 r.y0 r.y1 ∧ Wi s.z0 s.z1 r.z0 r.z1
def NnV (r s : VR) : Prop := s.e = 0 → r.e = 0 ∧ Wn s.x0 s.x1 r.x0 r.x1 ∧ Wn s.y0 s.y1 r.y0 r.y1 ∧ Wn s.z0 s.z1 r.z0 r.z1
theorem Wi.wn {a b p q : Int} (h : Wi a b p q) : Wn a b p q := ⟨h.2.1, h.2.2.2⟩
theorem NvV.nn {r s : VR} (h : NvV r s) : NnV r s := fun e => ⟨(h e).1, (h e).2.1.wn, (h e).2.2.1.wn, (h e).2.2.2.wn⟩
theorem nv_pair (R : Int → Int → Int → Int → Int × Int × Int) (hR : ∀ {a b c d p q r s : Int}, Wi a b p q → Wi c d r s → Nv (R p q r s) (R a b c d))
    {a0 a1 a2 a3 a4 a5 b0 b1 b2 b3 b4 b5 p0 p1 p2 p3 p4 p5 q0 q1 q2 q3 q4 q5 : Int} (h0 : Wi a0 a1 p0 p1) (h1 : Wi a2 a3 p2 p3) (h2 : Wi a4 a5 p4 p5) (k0 : Wi b0 b1 q0 q1) (k1 : Wi b2 b3 q2 q3) (k2 : Wi b4 b5 q4 q5) :
    NvV (vPairR R p0 p1 p2 p3 p4 p5 q0 q1 q2 q3 q4 q5) (vPairR R a0 a1 a2 a3 a4 a5 b0 b1 b2 b3 b4 b5) := by
  intro e
  unfold vPairR at e ⊢
  obtain ⟨e1, e2⟩ := fo_both e
  obtain ⟨e2, e3⟩ := fo_both e2
  obtain ⟨f1, w1⟩ := hR h0 k0 e1
  obtain ⟨f2, w2⟩ := hR h1 k1 e2
  obtain ⟨f3, w3⟩ := hR h2 k2 e3
  exact ⟨by simp only []; rw [f1, f2, f3]; rfl, w1, w2, w3⟩
theorem nv_each (R : Int → Int → Int × Int × Int) (hR : ∀ {a b p q : Int}, Wi a b p q → Nv (R p q) (R a b))
    {a0 a1 a2 a3 a4 a5 p0 p1 p2 p3 p4 p5 : Int} (h0 : Wi a0 a1 p0 p1) (h1 : Wi a2 a3 p2 p3) (h2 : Wi a4 a5 p4 p5) :
    NvV (vEachR R p0 p1 p2 p3 p4 p5) (vEachR R a0 a1 a2 a3 a4 a5) := by
  intro e
  unfold vEachR at e ⊢
  obtain ⟨e1, e2⟩ := fo_both e
  obtain ⟨e2, e3⟩ := fo_both e2
  obtain ⟨f1, w1⟩ := hR h0 e1
  obtain ⟨f2, w2⟩ := hR h1 e2
  obtain ⟨f3, w3⟩ := hR h2 e3
  exact ⟨by simp only []; rw [f1, f2, f3]; rfl, w1, w2, w3⟩
theorem nv_told {k k' : Int} {q q' : VR} (hk : k = 0) (h : NvV q q') : NvV (vTold (fo k q.e) q) (vTold (fo k' q'.e) q') := by
  intro e
  obtain ⟨e1, e2⟩ := told_zero e
  obtain ⟨_, e3⟩ := fo_both e1
  obtain ⟨f, w⟩ := h e3
  rw [e2, f, hk]
  exact ⟨rfl, w⟩
/-- A valid vector, and another one within it. -/
def WiV (a0 a1 a2 a3 a4 a5 p0 p1 p2 p3 p4 p5 : Int) : Prop := Wi a0 a1 p0 p1 ∧ Wi a2 a3 p2 p3 ∧ Wi a4 a5 p4 p5
theorem WiV.ck {a0 a1 a2 a3 a4 a5 p0 p1 p2 p3 p4 p5 : Int} (h : WiV a0 a1 a2 a3 a4 a5 p0 p1 p2 p3 p4 p5) : ckV p0 p1 p2 p3 p4 p5 = 0 := if_pos ⟨h.1.ck, h.2.1.ck, h.2.2.ck⟩
section
variable {a0 a1 a2 a3 a4 a5 p0 p1 p2 p3 p4 p5 b0 b1 b2 b3 b4 b5 q0 q1 q2 q3 q4 q5 : Int} (h : WiV a0 a1 a2 a3 a4 a5 p0 p1 p2 p3 p4 p5) (k : WiV b0 b1 b2 b3 b4 b5 q0 q1 q2 q3 q4 q5)
include h k
theorem nar_vAdd : NnV (vAddR p0 p1 p2 p3 p4 p5 q0 q1 q2 q3 q4 q5) (vAddR a0 a1 a2 a3 a4 a5 b0 b1 b2 b3 b4 b5) := by
  unfold vAddR
  exact (nv_told (by rw [h.ck, k.ck]; rfl) (nv_pair sAddR nv_add h.1 h.2.1 h.2.2 k.1 k.2.1 k.2.2)).nn
theorem nar_vSub : NnV (vSubR p0 p1 p2 p3 p4 p5 q0 q1 q2 q3 q4 q5) (vSubR a0 a1 a2 a3 a4 a5 b0 b1 b2 b3 b4 b5) := by
  unfold vSubR
  exact (nv_told (by rw [h.ck, k.ck]; rfl) (nv_pair sSubR nv_sub h.1 h.2.1 h.2.2 k.1 k.2.1 k.2.2)).nn
theorem nar_vDot : Nv (vDotR p0 p1 p2 p3 p4 p5 q0 q1 q2 q3 q4 q5) (vDotR a0 a1 a2 a3 a4 a5 b0 b1 b2 b3 b4 b5) := by
  intro e
  have hp := nv_pair sMulR nv_mul h.1 h.2.1 h.2.2 k.1 k.2.1 k.2.2
  unfold vDotR vDotQ at e ⊢
  generalize vPairR sMulR p0 p1 p2 p3 p4 p5 q0 q1 q2 q3 q4 q5 = r at *
  generalize vPairR sMulR a0 a1 a2 a3 a4 a5 b0 b1 b2 b3 b4 b5 = s at *
  obtain ⟨e1, e2⟩ := sTold_zero e
  rw [e2]
  obtain ⟨e3, e4⟩ := fo_both e1
  obtain ⟨_, e5⟩ := fo_both e3
  obtain ⟨f, w0, w1, w2⟩ := hp e5
  obtain ⟨g, v⟩ := nv_sum w0 w1 w2 e4
  unfold vNormS
  rw [f, g, h.ck, k.ck]
  exact ⟨rfl, v⟩
end
theorem nv_comp {a a' b b' c c' d d' p p' q q' r r' s s' : Int} (ha : Wi a a' p p') (hb : Wi b b' q q') (hc : Wi c c' r r') (hd : Wi d d' s s') : Nv (vCompR p p' q q' r r' s s') (vCompR a a' b b' c c' d d') := by
  intro e
  unfold vCompR at e ⊢
  obtain ⟨e1, e2⟩ := fo_both e
  obtain ⟨e2, e3⟩ := fo_both e2
  obtain ⟨f1, w1⟩ := nv_mul ha hb e1
  obtain ⟨f2, w2⟩ := nv_mul hc hd e2
  unfold vCompM at e3 ⊢
  obtain ⟨f3, w3⟩ := nv_sub w1 w2 e3
  exact ⟨by simp only []; rw [f1, f2, f3]; rfl, w3⟩
theorem nar_vCross {a0 a1 a2 a3 a4 a5 p0 p1 p2 p3 p4 p5 b0 b1 b2 b3 b4 b5 q0 q1 q2 q3 q4 q5 : Int} (h : WiV a0 a1 a2 a3 a4 a5 p0 p1 p2 p3 p4 p5) (k : WiV b0 b1 b2 b3 b4 b5 q0 q1 q2 q3 q4 q5) :
    NnV (vCrossR p0 p1 p2 p3 p4 p5 q0 q1 q2 q3 q4 q5) (vCrossR a0 a1 a2 a3 a4 a5 b0 b1 b2 b3 b4 b5) := by
  unfold vCrossR
  refine (nv_told (by rw [h.ck, k.ck]; rfl) ?_).nn
  intro e
  unfold vCrossQ at e ⊢
  obtain ⟨e1, e2⟩ := fo_both e
  obtain ⟨e2, e3⟩ := fo_both e2
  obtain ⟨f1, w1⟩ := nv_comp h.2.1 k.2.2 h.2.2 k.2.1 e1
  obtain ⟨f2, w2⟩ := nv_comp h.2.2 k.1 h.1 k.2.2 e2
  obtain ⟨f3, w3⟩ := nv_comp h.1 k.2.1 h.2.1 k.1 e3
  exact ⟨by simp only []; rw [f1, f2, f3]; rfl, w1, w2, w3⟩
section
variable {a0 a1 a2 a3 a4 a5 p0 p1 p2 p3 p4 p5 : Int} (h : WiV a0 a1 a2 a3 a4 a5 p0 p1 p2 p3 p4 p5)
include h
theorem nv_normR : Nv (vNormR p0 p1 p2 p3 p4 p5) (vNormR a0 a1 a2 a3 a4 a5) := by
  intro e
  have hp := nv_each sSqrR nv_sqr h.1 h.2.1 h.2.2
  unfold vNormR at e ⊢
  generalize vEachR sSqrR p0 p1 p2 p3 p4 p5 = r at *
  generalize vEachR sSqrR a0 a1 a2 a3 a4 a5 = s at *
  obtain ⟨e1, e2⟩ := fo_both e
  obtain ⟨e2, e3⟩ := fo_both e2
  obtain ⟨f, w0, w1, w2⟩ := hp e1
  unfold vNormS at e2 ⊢
  obtain ⟨g, v⟩ := nv_sum w0 w1 w2 e2
  unfold vNormT vNormS at e3 ⊢
  obtain ⟨i, u⟩ := nv_sqrt v e3
  exact ⟨by simp only []; rw [f, g, i]; rfl, u⟩
theorem nar_vNorm : Nv (vNormP p0 p1 p2 p3 p4 p5) (vNormP a0 a1 a2 a3 a4 a5) := by
  intro e
  unfold vNormP at e ⊢
  obtain ⟨e1, e2⟩ := sTold_zero e
  rw [e2]
  obtain ⟨_, e3⟩ := fo_both e1
  obtain ⟨f, w⟩ := nv_normR h e3
  rw [f, h.ck]
  exact ⟨rfl, w⟩
theorem nar_vUnit : NnV (vUnitR p0 p1 p2 p3 p4 p5) (vUnitR a0 a1 a2 a3 a4 a5) := by
  intro e
  unfold vUnitR at e ⊢
  obtain ⟨e1, e2⟩ := told_zero e
  rw [e2]
  obtain ⟨e3, e4⟩ := fo_both e1
  obtain ⟨_, e5⟩ := fo_both e3
  obtain ⟨f, w⟩ := nv_normR h e5
  rw [f, h.ck]
  generalize vNormR p0 p1 p2 p3 p4 p5 = n at *
  generalize vNormR a0 a1 a2 a3 a4 a5 = m at *
  unfold vUnitQ vPairR at e4 ⊢
  simp only [] at e4 ⊢
  obtain ⟨g1, g2⟩ := fo_both e4
  obtain ⟨g2, g3⟩ := fo_both g2
  have d : ∀ {a b p q : Int}, Wi a b p q → (sDivR a b m.1 m.2.1).2.2 = 0 → (sDivR p q n.1 n.2.1).2.2 = 0 ∧ Wn (sDivR a b m.1 m.2.1).1 (sDivR a b m.1 m.2.1).2.1 (sDivR p q n.1 n.2.1).1 (sDivR p q n.1 n.2.1).2.1 := fun x ex => by
    rcases nar_div x.1 w.1 x.2.1 x.2.2.1 x.2.2.2 w.2.1 w.2.2.1 w.2.2.2 with c | ⟨c1, c2, c3⟩
    · exact absurd ex c
    · exact ⟨c1, c2, c3⟩
  obtain ⟨f1, w1⟩ := d h.1 g1
  obtain ⟨f2, w2⟩ := d h.2.1 g2
  obtain ⟨f3, w3⟩ := d h.2.2 g3
  rw [f1, f2, f3]
  exact ⟨rfl, w1, w2, w3⟩
end
end Go.Proofs.Ytnfapdmbkpkkdaa
