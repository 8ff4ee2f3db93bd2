/-
  Mathematics of VecSquares: right angles, squares, unit vectors, sums.
-/
import Derived.Test.YtnfapdmbkpkkdaaVcQ
namespace Go.Proofs.Ytnfapdmbkpkkdaa

theorem sqnn (x : Int) : 0 ≤ x * x := by
  by_cases h : 0 ≤ x
  · exact Int.mul_nonneg h h
  · exact Int.mul_nonneg_of_nonpos_of_nonpos (by omega) (by omega)
theorem fo_both {x y : Int} (h : fo x y = 0) : x = 0 ∧ y = 0 := by
  unfold fo at h
  by_cases c : x = 0
  · rw [if_pos c] at h; exact ⟨c, h⟩
  · rw [if_neg c] at h; exact absurd h c
theorem fits_mul {l h x y : Int} (x0 : -4503599627370496 ≤ x) (x1 : x ≤ 4503599627370496) (y0 : -4503599627370496 ≤ y) (y1 : y ≤ 4503599627370496) (f : Fits l h (mulR false x y) (mulR true x y)) : l * 4294967296 ≤ x * y ∧ x * y ≤ h * 4294967296 := by
  rw [mulR_in false x0 x1 y0 y1, mulR_in true x0 x1 y0 y1] at f
  obtain ⟨e1, e2, e3, e4⟩ := f
  have l1 := lim_val e1
  have l2 := lim_val e2
  unfold rq at *
  generalize x * y = n at *
  simp only [Bool.false_eq_true, if_false, if_true] at *
  omega
theorem trip {r : Int × Int × Int} (h : r.2.2 = 0) : r = (r.1, r.2.1, 0) := by rw [← h]
theorem mul_sc0 {a b c d p q : Int} (k : ckS a b = 0) (k' : ckS c d = 0) (e : (sMulR a b c d).2.2 = 0) (p0 : a ≤ p) (p1 : p ≤ b) (q0 : c ≤ q) (q1 : q ≤ d) : (sMulR a b c d).1 * 4294967296 ≤ p * q ∧ p * q ≤ (sMulR a b c d).2.1 * 4294967296 := by
  have va := valS k
  have vb := valS k'
  exact fits_mul (by omega) (by omega) (by omega) (by omega) (mul_pt k k' (trip e) p0 p1 q0 q1)
theorem mul_sc {a b c d p N : Int} (k : ckS a b = 0) (k' : ckS c d = 0) (e : (sMulR a b c d).2.2 = 0) (p0 : a ≤ p) (p1 : p ≤ b) (n0 : c * 4294967296 ≤ N) (n1 : N ≤ d * 4294967296) : (sMulR a b c d).1 * 4294967296 * 4294967296 ≤ p * N ∧ p * N ≤ (sMulR a b c d).2.1 * 4294967296 * 4294967296 := by
  have vb := valS k'
  have f1 := mul_sc0 k k' e p0 p1 (Int.le_refl c) vb.2.1
  have f2 := mul_sc0 k k' e p0 p1 vb.2.1 (Int.le_refl d)
  generalize (sMulR a b c d).1 = l at *
  generalize (sMulR a b c d).2.1 = h at *
  by_cases hp : 0 ≤ p
  · have t1 : p * (c * 4294967296) ≤ p * N := Int.mul_le_mul_of_nonneg_left n0 hp
    have t2 : p * N ≤ p * (d * 4294967296) := Int.mul_le_mul_of_nonneg_left n1 hp
    rw [← Int.mul_assoc] at t1 t2
    generalize p * c = u at *
    generalize p * d = v at *
    generalize p * N = z at *
    omega
  · have t1 : p * (d * 4294967296) ≤ p * N := Int.mul_le_mul_of_nonpos_left (by omega) n1
    have t2 : p * N ≤ p * (c * 4294967296) := Int.mul_le_mul_of_nonpos_left (by omega) n0
    rw [← Int.mul_assoc] at t1 t2
    generalize p * c = u at *
    generalize p * d = v at *
    generalize p * N = z at *
    omega
theorem limS_val {l h : Int} (e : (limS l h).2.2 = 0) : (limS l h).1 = l ∧ (limS l h).2.1 = h := by
  unfold limS at e ⊢
  split at e
  · rename_i c; rw [if_pos c]; exact ⟨rfl, rfl⟩
  · cases e
theorem add_eq {a b c d : Int} (e : (sAddR a b c d).2.2 = 0) : (sAddR a b c d).1 = a + c ∧ (sAddR a b c d).2.1 = b + d := by
  unfold sAddR at e ⊢
  split at e
  · rename_i c; rw [if_pos c]; exact limS_val e
  · cases e
theorem sub_eq {a b c d : Int} (e : (sSubR a b c d).2.2 = 0) : (sSubR a b c d).1 = a - d ∧ (sSubR a b c d).2.1 = b - c := by
  unfold sSubR at e ⊢
  split at e
  · rename_i c; rw [if_pos c]; exact limS_val e
  · cases e
theorem vSum_eq {a0 a1 a2 a3 a4 a5 : Int} (e : (vSumR a0 a1 a2 a3 a4 a5).2.2 = 0) : (vSumR a0 a1 a2 a3 a4 a5).1 = a0 + a2 + a4 ∧ (vSumR a0 a1 a2 a3 a4 a5).2.1 = a1 + a3 + a5 := by
  unfold vSumR at e ⊢
  obtain ⟨e1, e2⟩ := fo_both e
  have h1 := add_eq e1
  have h2 := add_eq e2
  refine ⟨?_, ?_⟩
  · simp only []; rw [h2.1, h1.1]
  · simp only []; rw [h2.2, h1.2]
theorem comp_sc {a a' b b' c c' d d' p q r s : Int} (ka : ckS a a' = 0) (kb : ckS b b' = 0) (kc : ckS c c' = 0) (kd : ckS d d' = 0) (e : (vCompR a a' b b' c c' d d').2.2 = 0)
    (p0 : a ≤ p) (p1 : p ≤ a') (q0 : b ≤ q) (q1 : q ≤ b') (r0 : c ≤ r) (r1 : r ≤ c') (s0 : d ≤ s) (s1 : s ≤ d') :
    (vCompR a a' b b' c c' d d').1 * 4294967296 ≤ p * q - r * s ∧ p * q - r * s ≤ (vCompR a a' b b' c c' d d').2.1 * 4294967296 := by
  unfold vCompR at e ⊢
  obtain ⟨e1, e2⟩ := fo_both e
  obtain ⟨e2, e3⟩ := fo_both e2
  have f1 := mul_sc0 ka kb e1 p0 p1 q0 q1
  have f2 := mul_sc0 kc kd e2 r0 r1 s0 s1
  have h := sub_eq e3
  unfold vCompM
  simp only []
  rw [h.1, h.2]
  generalize p * q = u at *
  generalize r * s = v at *
  omega
theorem told_zero {k : Int} {q : VR} (h : (vTold k q).e = 0) : k = 0 ∧ vTold k q = ⟨q.x0, q.x1, q.y0, q.y1, q.z0, q.z1, 0⟩ := by
  unfold vTold at h ⊢
  by_cases c : k = 0
  · rw [if_pos c]; exact ⟨c, rfl⟩
  · rw [if_neg c] at h; exact absurd h c
theorem sTold_zero {k l h : Int} (e : (sTold k l h).2.2 = 0) : k = 0 ∧ sTold k l h = (l, h, 0) := by
  unfold sTold at e ⊢
  by_cases c : k = 0
  · rw [if_pos c]; exact ⟨c, rfl⟩
  · rw [if_neg c] at e; exact absurd e c
/-- The components of a cross product, each with numbers of the intervals. -/
theorem cross_sc {a0 a1 a2 a3 a4 a5 d0 d1 d2 d3 d4 d5 p0 p2 p4 q0 q2 q4 : Int} (ka : ckV a0 a1 a2 a3 a4 a5 = 0) (kd : ckV d0 d1 d2 d3 d4 d5 = 0) (e : (vCrossR a0 a1 a2 a3 a4 a5 d0 d1 d2 d3 d4 d5).e = 0)
    (A0 : a0 ≤ p0) (A1 : p0 ≤ a1) (A2 : a2 ≤ p2) (A3 : p2 ≤ a3) (A4 : a4 ≤ p4) (A5 : p4 ≤ a5) (D0 : d0 ≤ q0) (D1 : q0 ≤ d1) (D2 : d2 ≤ q2) (D3 : q2 ≤ d3) (D4 : d4 ≤ q4) (D5 : q4 ≤ d5) :
    ((vCrossR a0 a1 a2 a3 a4 a5 d0 d1 d2 d3 d4 d5).x0 * 4294967296 ≤ p2 * q4 - p4 * q2 ∧ p2 * q4 - p4 * q2 ≤ (vCrossR a0 a1 a2 a3 a4 a5 d0 d1 d2 d3 d4 d5).x1 * 4294967296) ∧
    ((vCrossR a0 a1 a2 a3 a4 a5 d0 d1 d2 d3 d4 d5).y0 * 4294967296 ≤ p4 * q0 - p0 * q4 ∧ p4 * q0 - p0 * q4 ≤ (vCrossR a0 a1 a2 a3 a4 a5 d0 d1 d2 d3 d4 d5).y1 * 4294967296) ∧
    ((vCrossR a0 a1 a2 a3 a4 a5 d0 d1 d2 d3 d4 d5).z0 * 4294967296 ≤ p0 * q2 - p2 * q0 ∧ p0 * q2 - p2 * q0 ≤ (vCrossR a0 a1 a2 a3 a4 a5 d0 d1 d2 d3 d4 d5).z1 * 4294967296) := by
  obtain ⟨k0, k1, k2⟩ := ckV_ok ka
  obtain ⟨l0, l1, l2⟩ := ckV_ok kd
  unfold vCrossR at e ⊢
  obtain ⟨h, h'⟩ := told_zero e
  rw [h']
  obtain ⟨_, e1⟩ := fo_both h
  unfold vCrossQ at e1 ⊢
  obtain ⟨e1, e2⟩ := fo_both e1
  obtain ⟨e2, e3⟩ := fo_both e2
  exact ⟨comp_sc k1 l2 k2 l1 e1 A2 A3 D4 D5 A4 A5 D2 D3, comp_sc k2 l0 k0 l2 e2 A4 A5 D0 D1 A0 A1 D4 D5, comp_sc k0 l1 k1 l0 e3 A0 A1 D2 D3 A2 A3 D0 D1⟩
theorem dot_parts {a0 a1 a2 a3 a4 a5 d0 d1 d2 d3 d4 d5 : Int} (e : (vDotR a0 a1 a2 a3 a4 a5 d0 d1 d2 d3 d4 d5).2.2 = 0) :
    (sMulR a0 a1 d0 d1).2.2 = 0 ∧ (sMulR a2 a3 d2 d3).2.2 = 0 ∧ (sMulR a4 a5 d4 d5).2.2 = 0 ∧
    (vDotR a0 a1 a2 a3 a4 a5 d0 d1 d2 d3 d4 d5).1 = (sMulR a0 a1 d0 d1).1 + (sMulR a2 a3 d2 d3).1 + (sMulR a4 a5 d4 d5).1 ∧
    (vDotR a0 a1 a2 a3 a4 a5 d0 d1 d2 d3 d4 d5).2.1 = (sMulR a0 a1 d0 d1).2.1 + (sMulR a2 a3 d2 d3).2.1 + (sMulR a4 a5 d4 d5).2.1 := by
  unfold vDotR vDotQ at e ⊢
  obtain ⟨h, h'⟩ := sTold_zero e
  rw [h']
  obtain ⟨h1, h2⟩ := fo_both h
  obtain ⟨_, h1⟩ := fo_both h1
  unfold vPairR at h1 h2 ⊢
  unfold vNormS at h2 ⊢
  simp only [] at h1 h2 ⊢
  obtain ⟨e1, e2⟩ := fo_both h1
  obtain ⟨e2, e3⟩ := fo_both e2
  have v := vSum_eq h2
  exact ⟨e1, e2, e3, v.1, v.2⟩
/-- The dot product of a vector and its cross product with another one contains 0. -/
theorem perp {a0 a1 a2 a3 a4 a5 d0 d1 d2 d3 d4 d5 : Int} (ka : ckV a0 a1 a2 a3 a4 a5 = 0) (kd : ckV d0 d1 d2 d3 d4 d5 = 0) (c : VR) (hc : vCrossR a0 a1 a2 a3 a4 a5 d0 d1 d2 d3 d4 d5 = c) (e : c.e = 0)
    (f : (vDotR a0 a1 a2 a3 a4 a5 c.x0 c.x1 c.y0 c.y1 c.z0 c.z1).2.2 = 0) : (vDotR a0 a1 a2 a3 a4 a5 c.x0 c.x1 c.y0 c.y1 c.z0 c.z1).1 ≤ 0 ∧ 0 ≤ (vDotR a0 a1 a2 a3 a4 a5 c.x0 c.x1 c.y0 c.y1 c.z0 c.z1).2.1 := by
  obtain ⟨k0, k1, k2⟩ := ckV_ok ka
  obtain ⟨l0, l1, l2⟩ := ckV_ok kd
  have v0 := valS k0
  have v1 := valS k1
  have v2 := valS k2
  have w0 := valS l0
  have w1 := valS l1
  have w2 := valS l2
  have s := cross_sc ka kd (by rw [hc]; exact e) (Int.le_refl a0) v0.2.1 (Int.le_refl a2) v1.2.1 (Int.le_refl a4) v2.2.1 (Int.le_refl d0) w0.2.1 (Int.le_refl d2) w1.2.1 (Int.le_refl d4) w2.2.1
  have ok := vCross_ok a0 a1 a2 a3 a4 a5 d0 d1 d2 d3 d4 d5
  rw [hc] at s ok
  obtain ⟨s0, s1, s2⟩ := s
  obtain ⟨o0, o1, o2⟩ := ok
  obtain ⟨e0, e1, e2, h1, h2⟩ := dot_parts f
  rw [h1, h2]
  have m0 := mul_sc k0 o0 e0 (Int.le_refl a0) v0.2.1 s0.1 s0.2
  have m1 := mul_sc k1 o1 e1 (Int.le_refl a2) v1.2.1 s1.1 s1.2
  have m2 := mul_sc k2 o2 e2 (Int.le_refl a4) v2.2.1 s2.1 s2.2
  have z : a0 * (a2 * d4 - a4 * d2) + a2 * (a4 * d0 - a0 * d4) + a4 * (a0 * d2 - a2 * d0) = 0 := by grind
  generalize a0 * (a2 * d4 - a4 * d2) = z0 at *
  generalize a2 * (a4 * d0 - a0 * d4) = z1 at *
  generalize a4 * (a0 * d2 - a2 * d0) = z2 at *
  omega
theorem sqr_sc {a b x : Int} (k : ckS a b = 0) (e : (sSqrR a b).2.2 = 0) (x0 : a ≤ x) (x1 : x ≤ b) : (sSqrR a b).1 * 4294967296 ≤ x * x ∧ x * x ≤ (sSqrR a b).2.1 * 4294967296 := by
  have va := valS k
  exact fits_mul (by omega) (by omega) (by omega) (by omega) (sqr_pt k (trip e) x0 x1)
theorem root_up {n : Int} (n0 : 0 ≤ n) (n1 : n < 77371252455336267181195264) : 0 ≤ rootR true n ∧ n ≤ rootR true n * rootR true n := by
  obtain ⟨i0, i1, i2, i3⟩ := isqrt_spec n n0 n1
  unfold rootR
  by_cases c : isqrt n * isqrt n = n
  · rw [if_neg (by simp [c])]; exact ⟨i0, by omega⟩
  · rw [if_pos ⟨rfl, c⟩]; exact ⟨by omega, by omega⟩
theorem root_down {n : Int} (n0 : 0 ≤ n) (n1 : n < 77371252455336267181195264) : 0 ≤ rootR false n ∧ rootR false n * rootR false n ≤ n := by
  obtain ⟨i0, i1, i2, i3⟩ := isqrt_spec n n0 n1
  unfold rootR
  rw [if_neg (by simp)]
  exact ⟨i0, i1⟩
theorem sqrtR_val {up : Bool} {x : Int} (e : (sqrtR up x).2 = 0) : 0 ≤ x ∧ (sqrtR up x).1 = rootR up (x * 4294967296) := by
  unfold sqrtR at e ⊢
  split at e
  · rename_i c; rw [if_pos c]; exact ⟨c.2, rfl⟩
  · cases e
/-- The root of an interval that holds P. -/
theorem sqrt_sc {a b P : Int} (e : (sSqrtR a b).2.2 = 0) (h0 : a * 4294967296 ≤ P) (h1 : P ≤ b * 4294967296) : (0 ≤ (sSqrtR a b).1 ∧ (sSqrtR a b).1 * (sSqrtR a b).1 ≤ P) ∧ 0 ≤ (sSqrtR a b).2.1 ∧ P ≤ (sSqrtR a b).2.1 * (sSqrtR a b).2.1 := by
  rcases ckS_cases a b with ⟨k, k0, k1, k2⟩ | ⟨k, _⟩
  · have e' := trip e
    generalize (sSqrtR a b).1 = l at *
    generalize (sSqrtR a b).2.1 = h at *
    unfold sSqrtR at e'
    rw [if_pos k] at e'
    obtain ⟨e1, e2, e3, e4⟩ := btw_ok e'
    obtain ⟨v1, w1⟩ := sqrtR_val e1
    obtain ⟨v2, w2⟩ := sqrtR_val e2
    rw [w1] at e3
    rw [w2] at e4
    have r1 := root_down (n := a * 4294967296) (by omega) (by omega)
    have r2 := root_up (n := b * 4294967296) (by omega) (by omega)
    rw [e3] at r1
    rw [e4] at r2
    exact ⟨⟨r1.1, by omega⟩, r2.1, by omega⟩
  · unfold sSqrtR at e
    rw [if_neg (by omega)] at e
    cases e
/-- What a norm is made of. -/
theorem norm_parts {a0 a1 a2 a3 a4 a5 : Int} (e : (vNormP a0 a1 a2 a3 a4 a5).2.2 = 0) :
    ckV a0 a1 a2 a3 a4 a5 = 0 ∧ (sSqrR a0 a1).2.2 = 0 ∧ (sSqrR a2 a3).2.2 = 0 ∧ (sSqrR a4 a5).2.2 = 0 ∧
    (sSqrtR ((sSqrR a0 a1).1 + (sSqrR a2 a3).1 + (sSqrR a4 a5).1) ((sSqrR a0 a1).2.1 + (sSqrR a2 a3).2.1 + (sSqrR a4 a5).2.1)).2.2 = 0 ∧
    vNormP a0 a1 a2 a3 a4 a5 = sSqrtR ((sSqrR a0 a1).1 + (sSqrR a2 a3).1 + (sSqrR a4 a5).1) ((sSqrR a0 a1).2.1 + (sSqrR a2 a3).2.1 + (sSqrR a4 a5).2.1) ∧
    vNormR a0 a1 a2 a3 a4 a5 = vNormP a0 a1 a2 a3 a4 a5 := by
  unfold vNormP at e ⊢
  obtain ⟨h, h'⟩ := sTold_zero e
  rw [h']
  obtain ⟨k, h1⟩ := fo_both h
  unfold vNormR at h1 ⊢
  simp only [] at h1 ⊢
  obtain ⟨e1, h2⟩ := fo_both h1
  obtain ⟨h3, h4⟩ := fo_both h2
  unfold vNormT at h4 ⊢
  unfold vNormS at h3 h4 ⊢
  unfold vEachR at e1 h3 h4 ⊢
  simp only [] at e1 h3 h4 ⊢
  have v := vSum_eq h3
  rw [v.1, v.2] at h4 ⊢
  obtain ⟨e1, e2⟩ := fo_both e1
  obtain ⟨e2, e3⟩ := fo_both e2
  refine ⟨k, e1, e2, e3, h4, (trip h4).symm, ?_⟩
  rw [e1, e2, e3, h3, h4]
  rfl
theorem norm_sc {a0 a1 a2 a3 a4 a5 p q r : Int} (e : (vNormP a0 a1 a2 a3 a4 a5).2.2 = 0) (p0 : a0 ≤ p) (p1 : p ≤ a1) (q0 : a2 ≤ q) (q1 : q ≤ a3) (r0 : a4 ≤ r) (r1 : r ≤ a5) :
    (0 ≤ (vNormP a0 a1 a2 a3 a4 a5).1 ∧ (vNormP a0 a1 a2 a3 a4 a5).1 * (vNormP a0 a1 a2 a3 a4 a5).1 ≤ p * p + q * q + r * r) ∧ 0 ≤ (vNormP a0 a1 a2 a3 a4 a5).2.1 ∧ p * p + q * q + r * r ≤ (vNormP a0 a1 a2 a3 a4 a5).2.1 * (vNormP a0 a1 a2 a3 a4 a5).2.1 := by
  obtain ⟨k, e1, e2, e3, e4, h, _⟩ := norm_parts e
  obtain ⟨k0, k1, k2⟩ := ckV_ok k
  rw [h]
  have s1 := sqr_sc k0 e1 p0 p1
  have s2 := sqr_sc k1 e2 q0 q1
  have s3 := sqr_sc k2 e3 r0 r1
  refine sqrt_sc e4 ?_ ?_
  · generalize p * p = x at *; generalize q * q = y at *; generalize r * r = z at *; omega
  · generalize p * p = x at *; generalize q * q = y at *; generalize r * r = z at *; omega
theorem dot_sc {a0 a1 a2 a3 a4 a5 : Int} (k : ckV a0 a1 a2 a3 a4 a5 = 0) (e : (vDotR a0 a1 a2 a3 a4 a5 a0 a1 a2 a3 a4 a5).2.2 = 0) :
    (vDotR a0 a1 a2 a3 a4 a5 a0 a1 a2 a3 a4 a5).1 * 4294967296 ≤ a0 * a0 + a2 * a2 + a4 * a4 ∧ a0 * a0 + a2 * a2 + a4 * a4 ≤ (vDotR a0 a1 a2 a3 a4 a5 a0 a1 a2 a3 a4 a5).2.1 * 4294967296 := by
  obtain ⟨k0, k1, k2⟩ := ckV_ok k
  have v0 := valS k0
  have v1 := valS k1
  have v2 := valS k2
  obtain ⟨e0, e1, e2, h1, h2⟩ := dot_parts e
  rw [h1, h2]
  have m0 := mul_sc0 k0 k0 e0 (Int.le_refl a0) v0.2.1 (Int.le_refl a0) v0.2.1
  have m1 := mul_sc0 k1 k1 e1 (Int.le_refl a2) v1.2.1 (Int.le_refl a2) v1.2.1
  have m2 := mul_sc0 k2 k2 e2 (Int.le_refl a4) v2.2.1 (Int.le_refl a4) v2.2.1
  generalize a0 * a0 = x at *
  generalize a2 * a2 = y at *
  generalize a4 * a4 = z at *
  omega
/-- The square of the norm and the dot product with itself meet. -/
theorem norm_dot {a0 a1 a2 a3 a4 a5 : Int} (n : Int × Int × Int) (hn : vNormP a0 a1 a2 a3 a4 a5 = n) (e : n.2.2 = 0) (f : (vDotR a0 a1 a2 a3 a4 a5 a0 a1 a2 a3 a4 a5).2.2 = 0) (g : (sSqrR n.1 n.2.1).2.2 = 0) :
    (sSqrR n.1 n.2.1).1 ≤ (vDotR a0 a1 a2 a3 a4 a5 a0 a1 a2 a3 a4 a5).2.1 ∧ (vDotR a0 a1 a2 a3 a4 a5 a0 a1 a2 a3 a4 a5).1 ≤ (sSqrR n.1 n.2.1).2.1 := by
  have hk := (norm_parts (by rw [hn]; exact e)).1
  obtain ⟨k0, k1, k2⟩ := ckV_ok hk
  have v0 := valS k0
  have v1 := valS k1
  have v2 := valS k2
  have s := norm_sc (by rw [hn]; exact e) (Int.le_refl a0) v0.2.1 (Int.le_refl a2) v1.2.1 (Int.le_refl a4) v2.2.1
  have d := dot_sc hk f
  rw [hn] at s
  have k : ckS n.1 n.2.1 = 0 := by
    rcases ckS_cases n.1 n.2.1 with ⟨k, _⟩ | ⟨k, _⟩
    · exact k
    · unfold sSqrR at g; rw [if_neg (by omega)] at g; cases g
  have vn := valS k
  have q1 := sqr_sc k g (Int.le_refl n.1) vn.2.1
  have q2 := sqr_sc k g vn.2.1 (Int.le_refl n.2.1)
  generalize a0 * a0 + a2 * a2 + a4 * a4 = P at *
  generalize n.1 * n.1 = x at *
  generalize n.2.1 * n.2.1 = y at *
  omega
theorem fits_div {l h x y : Int} (x0 : -4503599627370496 ≤ x) (x1 : x ≤ 4503599627370496) (y0 : 0 < y) (y1 : y ≤ 4503599627370496) (f : Fits l h (divR false x y) (divR true x y)) : l * y ≤ x * 4294967296 ∧ x * 4294967296 ≤ h * y := by
  have hk : ck2 x y = 0 := ck2_ok x0 x1 (by omega) y1
  obtain ⟨e1, e2, e3, e4⟩ := f
  unfold divR at e1 e2 e3 e4
  rw [if_pos hk, if_neg (by omega)] at e1 e2 e3 e4
  have l1 := lim_val e1
  have l2 := lim_val e2
  unfold divQ at *
  rw [if_neg (by omega)] at l1 l2 e3 e4
  rw [l1.1] at e3
  rw [l2.1] at e4
  unfold rq at e3 e4
  simp only [Bool.false_eq_true, if_false, if_true] at e3 e4
  refine ⟨(Int.le_ediv_iff_mul_le y0).1 e3, ?_⟩
  have t := (Int.le_ediv_iff_mul_le y0).1 (show -h ≤ -(x * 4294967296) / y by omega)
  rw [Int.neg_mul] at t
  omega
theorem low_sq {S l n2 X P : Int} (hs : S ≤ l * l) (P0 : 0 ≤ P) (hP : P ≤ n2 * n2) (hx : (l * n2) * (l * n2) ≤ X * X) : S * P ≤ X * X := by
  have t1 : S * P ≤ l * l * P := Int.mul_le_mul_of_nonneg_right hs P0
  have t2 : l * l * P ≤ l * l * (n2 * n2) := Int.mul_le_mul_of_nonneg_left hP (sqnn l)
  have e : l * l * (n2 * n2) = (l * n2) * (l * n2) := by grind
  omega
theorem up_sq {S h n1 X P : Int} (hs : h * h ≤ S) (P0 : 0 ≤ P) (hP : n1 * n1 ≤ P) (hx : X * X ≤ (h * n1) * (h * n1)) : X * X ≤ S * P := by
  have t1 : h * h * P ≤ S * P := Int.mul_le_mul_of_nonneg_right hs P0
  have t2 : h * h * (n1 * n1) ≤ h * h * P := Int.mul_le_mul_of_nonneg_left hP (sqnn h)
  have e : h * h * (n1 * n1) = (h * n1) * (h * n1) := by grind
  omega
theorem sq_neg {u v : Int} (h : u ≤ v) (h0 : v ≤ 0) : v * v ≤ u * u := by
  have := sq_le (u := -v) (v := -u) (by omega) (by omega)
  rw [Int.neg_mul_neg, Int.neg_mul_neg] at this
  exact this
/-- A component of the unit vector, squared. -/
theorem unit_part {a b n1 n2 p P : Int} (k : ckS a b = 0) (kn : ckS n1 n2 = 0) (n0 : 0 ≤ n1) (e : (sDivR a b n1 n2).2.2 = 0) (ku : ckS (sDivR a b n1 n2).1 (sDivR a b n1 n2).2.1 = 0) (g : (sSqrR (sDivR a b n1 n2).1 (sDivR a b n1 n2).2.1).2.2 = 0)
    (p0 : a ≤ p) (p1 : p ≤ b) (h1 : n1 * n1 ≤ P) (h2 : P ≤ n2 * n2) :
    0 < n1 ∧ (sSqrR (sDivR a b n1 n2).1 (sDivR a b n1 n2).2.1).1 * 4294967296 * P ≤ p * 4294967296 * (p * 4294967296) ∧ p * 4294967296 * (p * 4294967296) ≤ (sSqrR (sDivR a b n1 n2).1 (sDivR a b n1 n2).2.1).2.1 * 4294967296 * P := by
  have va := valS k
  have vn := valS kn
  have vu := valS ku
  have z := (div_corner k kn (trip e)).1
  have hn : 0 < n1 := by omega
  have f1 := fits_div (by omega) (by omega) hn (by omega) (div_pt k kn (trip e) p0 p1 (Int.le_refl n1) vn.2.1)
  have f2 := fits_div (by omega) (by omega) (by omega) (by omega) (div_pt k kn (trip e) p0 p1 vn.2.1 (Int.le_refl n2))
  have P0 : 0 ≤ P := Int.le_trans (sqnn n1) h1
  have q1 := sqr_sc ku g (Int.le_refl _) vu.2.1
  have q2 := sqr_sc ku g vu.2.1 (Int.le_refl _)
  have q3 : (sDivR a b n1 n2).1 ≤ 0 → 0 ≤ (sDivR a b n1 n2).2.1 → (sSqrR (sDivR a b n1 n2).1 (sDivR a b n1 n2).2.1).1 * 4294967296 ≤ 0 := fun x y => (sqr_sc ku g x y).1
  generalize (sSqrR (sDivR a b n1 n2).1 (sDivR a b n1 n2).2.1).1 * 4294967296 = S at *
  generalize (sSqrR (sDivR a b n1 n2).1 (sDivR a b n1 n2).2.1).2.1 * 4294967296 = T at *
  generalize (sDivR a b n1 n2).1 = l at *
  generalize (sDivR a b n1 n2).2.1 = h at *
  generalize p * 4294967296 = X at *
  refine ⟨hn, ?_, ?_⟩
  · by_cases hl : 0 < l
    · exact low_sq q1.1 P0 h2 (sq_le (Int.mul_nonneg (by omega) (by omega)) f2.1)
    · by_cases hh : h < 0
      · have t : h * n2 ≤ 0 * n2 := Int.mul_le_mul_of_nonneg_right (by omega) (by omega)
        exact low_sq q2.1 P0 h2 (sq_neg f2.2 (by omega))
      · have t : S * P ≤ 0 * P := Int.mul_le_mul_of_nonneg_right (q3 (by omega) (by omega)) P0
        have t' := sqnn X
        omega
  · by_cases hx : 0 ≤ X
    · exact up_sq q2.2 P0 h1 (sq_le hx f1.2)
    · exact up_sq q1.2 P0 h1 (sq_neg f1.1 (by omega))
theorem le_of_sq {x y : Int} (y0 : 0 ≤ y) (h : x * x ≤ y * y) : x ≤ y := by
  by_cases c : x ≤ y
  · exact c
  · have : (y + 1) * (y + 1) ≤ x * x := sq_le (by omega) (by omega)
    have e : (y + 1) * (y + 1) = y * y + 2 * y + 1 := by grind
    omega
/-- The norm of the unit vector contains 1. -/
theorem unit_one {a0 a1 a2 a3 a4 a5 : Int} (u : VR) (hu : vUnitR a0 a1 a2 a3 a4 a5 = u) (e : (vNormP a0 a1 a2 a3 a4 a5).2.2 = 0) (f : u.e = 0) (g : (vNormP u.x0 u.x1 u.y0 u.y1 u.z0 u.z1).2.2 = 0) :
    (vNormP u.x0 u.x1 u.y0 u.y1 u.z0 u.z1).1 ≤ 4294967296 ∧ 4294967296 ≤ (vNormP u.x0 u.x1 u.y0 u.y1 u.z0 u.z1).2.1 := by
  obtain ⟨k, _, _, _, _, _, hR⟩ := norm_parts e
  obtain ⟨k0, k1, k2⟩ := ckV_ok k
  have v0 := valS k0
  have v1 := valS k1
  have v2 := valS k2
  have s := norm_sc e (Int.le_refl a0) v0.2.1 (Int.le_refl a2) v1.2.1 (Int.le_refl a4) v2.2.1
  unfold vUnitR at hu
  rw [hR] at hu
  generalize vNormP a0 a1 a2 a3 a4 a5 = n at *
  rw [← hu] at f
  obtain ⟨f1, f2⟩ := told_zero f
  rw [f2] at hu
  obtain ⟨_, f3⟩ := fo_both f1
  unfold vUnitQ vPairR at f3 hu
  simp only [] at f3 hu
  obtain ⟨d0, f4⟩ := fo_both f3
  obtain ⟨d1, d2⟩ := fo_both f4
  subst hu
  simp only [] at g ⊢
  obtain ⟨gk, g0, g1, g2, g3, h, _⟩ := norm_parts g
  rw [h]
  obtain ⟨u0, u1, u2⟩ := ckV_ok gk
  have kn : ckS n.1 n.2.1 = 0 := by
    rcases ckS_cases n.1 n.2.1 with ⟨c, _⟩ | ⟨c, _⟩
    · exact c
    · unfold sDivR ck2S at d0; rw [if_pos k0, if_neg (by omega)] at d0; cases d0
  have x0 := unit_part k0 kn s.1.1 d0 u0 g0 (Int.le_refl a0) v0.2.1 s.1.2 s.2.2
  have x1 := unit_part k1 kn s.1.1 d1 u1 g1 (Int.le_refl a2) v1.2.1 s.1.2 s.2.2
  have x2 := unit_part k2 kn s.1.1 d2 u2 g2 (Int.le_refl a4) v2.2.1 s.1.2 s.2.2
  obtain ⟨n0, x0, y0⟩ := x0
  obtain ⟨_, x1, y1⟩ := x1
  obtain ⟨_, x2, y2⟩ := x2
  have P0 : 0 < a0 * a0 + a2 * a2 + a4 * a4 := by
    have : 1 * 1 ≤ n.1 * n.1 := sq_le (by omega) (by omega)
    omega
  have eq : a0 * 4294967296 * (a0 * 4294967296) + a2 * 4294967296 * (a2 * 4294967296) + a4 * 4294967296 * (a4 * 4294967296) = 18446744073709551616 * (a0 * a0 + a2 * a2 + a4 * a4) := by grind
  generalize a0 * 4294967296 * (a0 * 4294967296) = X0 at *
  generalize a2 * 4294967296 * (a2 * 4294967296) = X1 at *
  generalize a4 * 4294967296 * (a4 * 4294967296) = X2 at *
  generalize a0 * a0 + a2 * a2 + a4 * a4 = P at *
  generalize (sSqrR (sDivR a0 a1 n.1 n.2.1).1 (sDivR a0 a1 n.1 n.2.1).2.1) = r0 at *
  generalize (sSqrR (sDivR a2 a3 n.1 n.2.1).1 (sDivR a2 a3 n.1 n.2.1).2.1) = r1 at *
  generalize (sSqrR (sDivR a4 a5 n.1 n.2.1).1 (sDivR a4 a5 n.1 n.2.1).2.1) = r2 at *
  have b1 : (r0.1 + r1.1 + r2.1) * 4294967296 ≤ 18446744073709551616 := by
    refine Int.le_of_mul_le_mul_right (a := P) ?_ P0
    have : (r0.1 + r1.1 + r2.1) * 4294967296 * P = r0.1 * 4294967296 * P + r1.1 * 4294967296 * P + r2.1 * 4294967296 * P := by grind
    omega
  have b2 : 18446744073709551616 ≤ (r0.2.1 + r1.2.1 + r2.2.1) * 4294967296 := by
    refine Int.le_of_mul_le_mul_right (a := P) ?_ P0
    have : (r0.2.1 + r1.2.1 + r2.2.1) * 4294967296 * P = r0.2.1 * 4294967296 * P + r1.2.1 * 4294967296 * P + r2.2.1 * 4294967296 * P := by grind
    omega
  have t := sqrt_sc g3 b1 b2
  exact ⟨le_of_sq (by omega) t.1.2, le_of_sq t.2.1 t.2.2⟩
/-- The norm of a sum is not greater than the sum of the norms. -/
theorem norm_sum {a0 a1 a2 a3 a4 a5 d0 d1 d2 d3 d4 d5 : Int} (s : VR) (hs : vAddR a0 a1 a2 a3 a4 a5 d0 d1 d2 d3 d4 d5 = s) (e : (vNormP a0 a1 a2 a3 a4 a5).2.2 = 0) (f : (vNormP d0 d1 d2 d3 d4 d5).2.2 = 0) (g : s.e = 0)
    (h : (vNormP s.x0 s.x1 s.y0 s.y1 s.z0 s.z1).2.2 = 0) : (vNormP s.x0 s.x1 s.y0 s.y1 s.z0 s.z1).1 ≤ (vNormP a0 a1 a2 a3 a4 a5).2.1 + (vNormP d0 d1 d2 d3 d4 d5).2.1 := by
  obtain ⟨k0, k1, k2⟩ := ckV_ok (norm_parts e).1
  obtain ⟨l0, l1, l2⟩ := ckV_ok (norm_parts f).1
  have v0 := valS k0
  have v1 := valS k1
  have v2 := valS k2
  have w0 := valS l0
  have w1 := valS l1
  have w2 := valS l2
  have x := norm_sc e (Int.le_refl a0) v0.2.1 (Int.le_refl a2) v1.2.1 (Int.le_refl a4) v2.2.1
  have y := norm_sc f (Int.le_refl d0) w0.2.1 (Int.le_refl d2) w1.2.1 (Int.le_refl d4) w2.2.1
  rw [← hs] at g
  unfold vAddR at g hs
  obtain ⟨g1, g2⟩ := told_zero g
  rw [g2] at hs
  obtain ⟨_, g3⟩ := fo_both g1
  unfold vPairR at g3 hs
  simp only [] at g3 hs
  obtain ⟨s0, g4⟩ := fo_both g3
  obtain ⟨s1, s2⟩ := fo_both g4
  have t0 := add_eq s0
  have t1 := add_eq s1
  have t2 := add_eq s2
  rw [t0.1, t0.2, t1.1, t1.2, t2.1, t2.2] at hs
  subst hs
  simp only [] at h ⊢
  have z := norm_sc h (p := a0 + d0) (q := a2 + d2) (r := a4 + d4) (by omega) (by omega) (by omega) (by omega) (by omega) (by omega)
  generalize (vNormP (a0 + d0) (a1 + d1) (a2 + d2) (a3 + d3) (a4 + d4) (a5 + d5)).1 = L at *
  generalize (vNormP a0 a1 a2 a3 a4 a5).2.1 = N at *
  generalize (vNormP d0 d1 d2 d3 d4 d5).2.1 = M at *
  refine le_of_sq (by omega) (Int.le_trans z.1.2 ?_)
  have N0 := x.2.1
  have M0 := y.2.1
  have hP := x.2.2
  have hQ := y.2.2
  have tt : a0 * d0 + a2 * d2 + a4 * d4 ≤ N * M := by
    refine le_of_sq (Int.mul_nonneg N0 M0) ?_
    have c : (a0 * d0 + a2 * d2 + a4 * d4) * (a0 * d0 + a2 * d2 + a4 * d4) + ((a0 * d2 - a2 * d0) * (a0 * d2 - a2 * d0) + (a0 * d4 - a4 * d0) * (a0 * d4 - a4 * d0) + (a2 * d4 - a4 * d2) * (a2 * d4 - a4 * d2)) = (a0 * a0 + a2 * a2 + a4 * a4) * (d0 * d0 + d2 * d2 + d4 * d4) := by grind
    have c1 := sqnn (a0 * d2 - a2 * d0)
    have c2 := sqnn (a0 * d4 - a4 * d0)
    have c3 := sqnn (a2 * d4 - a4 * d2)
    have q0 : 0 ≤ d0 * d0 + d2 * d2 + d4 * d4 := by
      have := sqnn d0
      have := sqnn d2
      have := sqnn d4
      omega
    have c4 : (a0 * a0 + a2 * a2 + a4 * a4) * (d0 * d0 + d2 * d2 + d4 * d4) ≤ N * N * (M * M) := Int.mul_le_mul hP hQ q0 (sqnn N)
    have c5 : N * N * (M * M) = N * M * (N * M) := by grind
    omega
  have e1 : (a0 + d0) * (a0 + d0) + (a2 + d2) * (a2 + d2) + (a4 + d4) * (a4 + d4) = (a0 * a0 + a2 * a2 + a4 * a4) + (d0 * d0 + d2 * d2 + d4 * d4) + 2 * (a0 * d0 + a2 * d2 + a4 * d4) := by grind
  have e2 : (N + M) * (N + M) = N * N + M * M + 2 * (N * M) := by grind
  omega
end Go.Proofs.Ytnfapdmbkpkkdaa
