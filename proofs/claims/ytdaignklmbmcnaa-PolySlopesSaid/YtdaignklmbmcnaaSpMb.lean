/-
  Plain mathematics of operations on intervals: the results of numbers of intervals lie in the results of the intervals; intervals within intervals.
-/
import Derived.Test.YtdaignklmbmcnaaSpMa
namespace Go.Proofs.Ytdaignklmbmcnaa

theorem valS {l h : Int} (k : ckS l h = 0) : -4503599627370496 ≤ l ∧ l ≤ h ∧ h ≤ 4503599627370496 := by
  rcases ckS_cases l h with ⟨_, h0, h1, h2⟩ | ⟨e, _⟩
  · exact ⟨h0, h1, h2⟩
  · omega
theorem val2 {a b c d : Int} (k : ckS a b = 0) (k' : ckS c d = 0) : ck2S a b c d = 0 := by unfold ck2S; rw [if_pos k, k']
/-- Two results, rounded down and up, that fit, and lie from l to h. -/
def Fits (l h : Int) (x y : Int × Int) : Prop := x.2 = 0 ∧ y.2 = 0 ∧ l ≤ x.1 ∧ y.1 ≤ h
theorem lim_val {q : Int} (h : (lim q).2 = 0) : (lim q).1 = q ∧ -4503599627370496 ≤ q ∧ q ≤ 4503599627370496 := by
  unfold lim at h ⊢
  by_cases c : q < -4503599627370496 ∨ 4503599627370496 < q
  · rw [if_pos c] at h; cases h
  · rw [if_neg c]; exact ⟨rfl, by omega, by omega⟩
theorem fits_mk {l h D U D1 U1 : Int} (e1 : (lim D1).2 = 0) (h1 : l ≤ (lim D1).1) (e2 : (lim U1).2 = 0) (h2 : (lim U1).1 ≤ h) (d : D1 ≤ D) (u : U ≤ U1) (du : D ≤ U) : Fits l h (lim D) (lim U) := by
  obtain ⟨v1, b1, b2⟩ := lim_val e1
  obtain ⟨v2, c1, c2⟩ := lim_val e2
  rw [lim_ok (by omega) (by omega), lim_ok (by omega) (by omega)]
  refine ⟨rfl, rfl, ?_, ?_⟩ <;> simp only [] <;> omega
theorem rq_le (n d : Int) (hd : 0 < d) : rq false n d ≤ rq true n d := by have := rq_up n d hd; omega
theorem fits_at {l h : Int} {x y : Int × Int} (k : (atR x y).2.2 = 0 ∧ l ≤ (atR x y).1 ∧ (atR x y).2.1 ≤ h) : Fits l h x y := by
  obtain ⟨e1, e2, e3, e4⟩ := at_ok k.1
  exact ⟨e1, e2, e3 ▸ k.2.1, e4 ▸ k.2.2⟩
theorem at_fits {l h : Int} {x y : Int × Int} (k : Fits l h x y) : (atR x y).2.2 = 0 ∧ l ≤ (atR x y).1 ∧ (atR x y).2.1 ≤ h := by
  rw [at_mk k.1 k.2.1]; exact ⟨rfl, k.2.2.1, k.2.2.2⟩
theorem mulR_in (to : Bool) {p q : Int} (p0 : -4503599627370496 ≤ p) (p1 : p ≤ 4503599627370496) (q0 : -4503599627370496 ≤ q) (q1 : q ≤ 4503599627370496) : mulR to p q = lim (rq to (p * q) 4294967296) := by
  unfold mulR; rw [if_pos (ck2_ok p0 p1 q0 q1)]
theorem mul_corner {a b c d l h : Int} (k : ckS a b = 0) (k' : ckS c d = 0) (e : sMulR a b c d = (l, h, 0)) (p q : Int) (hp : p = a ∨ p = b) (hq : q = c ∨ q = d) : Fits l h (mulR false p q) (mulR true p q) := by
  unfold sMulR at e
  rw [if_pos (val2 k k')] at e
  obtain ⟨x1, x2, x3, x4⟩ := ov4 e
  rcases hp with rfl | rfl <;> rcases hq with rfl | rfl
  · exact fits_at x1
  · exact fits_at x2
  · exact fits_at x3
  · exact fits_at x4
theorem prod_low {a b c d x y : Int} (x0 : a ≤ x) (x1 : x ≤ b) (y0 : c ≤ y) (y1 : y ≤ d) : ∃ p q, (p = a ∨ p = b) ∧ (q = c ∨ q = d) ∧ p * q ≤ x * y := by
  by_cases hy : 0 ≤ y
  · have t1 : a * y ≤ x * y := Int.mul_le_mul_of_nonneg_right x0 hy
    by_cases ha : 0 ≤ a
    · exact ⟨a, c, Or.inl rfl, Or.inl rfl, Int.le_trans (Int.mul_le_mul_of_nonneg_left y0 ha) t1⟩
    · exact ⟨a, d, Or.inl rfl, Or.inr rfl, Int.le_trans (Int.mul_le_mul_of_nonpos_left (by omega) y1) t1⟩
  · have t1 : b * y ≤ x * y := Int.mul_le_mul_of_nonpos_right x1 (by omega)
    by_cases hb : 0 ≤ b
    · exact ⟨b, c, Or.inr rfl, Or.inl rfl, Int.le_trans (Int.mul_le_mul_of_nonneg_left y0 hb) t1⟩
    · exact ⟨b, d, Or.inr rfl, Or.inr rfl, Int.le_trans (Int.mul_le_mul_of_nonpos_left (by omega) y1) t1⟩
theorem prod_high {a b c d x y : Int} (x0 : a ≤ x) (x1 : x ≤ b) (y0 : c ≤ y) (y1 : y ≤ d) : ∃ p q, (p = a ∨ p = b) ∧ (q = c ∨ q = d) ∧ x * y ≤ p * q := by
  obtain ⟨p, q, hp, hq, h⟩ := prod_low (a := -b) (b := -a) (c := c) (d := d) (x := -x) (y := y) (by omega) (by omega) y0 y1
  refine ⟨-p, q, by omega, hq, ?_⟩
  rw [Int.neg_mul] at h ⊢
  omega
theorem mul_pt {a b c d l h x y : Int} (k : ckS a b = 0) (k' : ckS c d = 0) (e : sMulR a b c d = (l, h, 0)) (x0 : a ≤ x) (x1 : x ≤ b) (y0 : c ≤ y) (y1 : y ≤ d) : Fits l h (mulR false x y) (mulR true x y) := by
  have va := valS k
  have vb := valS k'
  obtain ⟨p, q, hp, hq, h1⟩ := prod_low x0 x1 y0 y1
  obtain ⟨r, s, hr, hs, h2⟩ := prod_high x0 x1 y0 y1
  have f1 := mul_corner k k' e p q hp hq
  have f2 := mul_corner k k' e r s hr hs
  rw [mulR_in false (by omega) (by omega) (by omega) (by omega), mulR_in true (by omega) (by omega) (by omega) (by omega)] at f1 f2 ⊢
  exact fits_mk f1.1 f1.2.2.1 f2.2.1 f2.2.2.2 (rq_mono _ _ (by omega) h1) (rq_mono _ _ (by omega) h2) (rq_le _ _ (by omega))
theorem rq_den_pos (to : Bool) {n d e : Int} (hn : 0 ≤ n) (hd : 0 < d) (h : d ≤ e) : rq to n e ≤ rq to n d := by
  unfold rq
  cases to
  · simp only [Bool.false_eq_true, if_false]
    have t1 : n / e * e ≤ n := (Int.le_ediv_iff_mul_le (by omega)).1 (Int.le_refl _)
    have t2 : 0 ≤ n / e := Int.ediv_nonneg hn (by omega)
    exact (Int.le_ediv_iff_mul_le hd).2 (Int.le_trans (Int.mul_le_mul_of_nonneg_left h t2) t1)
  · simp only [if_true]
    have t1 : (-n) / d * d ≤ -n := (Int.le_ediv_iff_mul_le hd).1 (Int.le_refl _)
    have t2 : (-n) / d ≤ 0 := by
      by_cases c : (-n) / d ≤ 0
      · exact c
      · have : 1 * d ≤ (-n) / d * d := Int.mul_le_mul_of_nonneg_right (by omega) (by omega)
        omega
    have t3 : (-n) / d ≤ (-n) / e := (Int.le_ediv_iff_mul_le (by omega)).2 (Int.le_trans (Int.mul_le_mul_of_nonpos_left t2 h) t1)
    omega
theorem rq_den_neg (to : Bool) {n d e : Int} (hn : n ≤ 0) (hd : 0 < d) (h : d ≤ e) : rq to n d ≤ rq to n e := by
  have t := rq_den_pos (!to) (n := -n) (by omega) hd h
  rw [rq_neg, rq_neg] at t
  simp only [Bool.not_not] at t
  omega
theorem quo_low (to : Bool) {a b c d n m : Int} (c0 : 0 < c) (x0 : a ≤ n) (_x1 : n ≤ b) (y0 : c ≤ m) (y1 : m ≤ d) : ∃ p q, (p = a ∨ p = b) ∧ (q = c ∨ q = d) ∧ rq to p q ≤ rq to n m := by
  have t1 : rq to a m ≤ rq to n m := rq_mono to m (by omega) x0
  by_cases ha : 0 ≤ a
  · exact ⟨a, d, Or.inl rfl, Or.inr rfl, Int.le_trans (rq_den_pos to ha (by omega) y1) t1⟩
  · exact ⟨a, c, Or.inl rfl, Or.inl rfl, Int.le_trans (rq_den_neg to (by omega) c0 y0) t1⟩
theorem quo_high (to : Bool) {a b c d n m : Int} (c0 : 0 < c) (_x0 : a ≤ n) (x1 : n ≤ b) (y0 : c ≤ m) (y1 : m ≤ d) : ∃ p q, (p = a ∨ p = b) ∧ (q = c ∨ q = d) ∧ rq to n m ≤ rq to p q := by
  have t1 : rq to n m ≤ rq to b m := rq_mono to m (by omega) x1
  by_cases hb : 0 ≤ b
  · exact ⟨b, c, Or.inr rfl, Or.inl rfl, Int.le_trans t1 (rq_den_pos to hb c0 y0)⟩
  · exact ⟨b, d, Or.inr rfl, Or.inr rfl, Int.le_trans t1 (rq_den_neg to (by omega) (by omega) y1)⟩
theorem div_corner {a b c d l h : Int} (k : ckS a b = 0) (k' : ckS c d = 0) (e : sDivR a b c d = (l, h, 0)) : (0 < c ∨ d < 0) ∧ ∀ p q : Int, (p = a ∨ p = b) → (q = c ∨ q = d) → Fits l h (divR false p q) (divR true p q) := by
  unfold sDivR at e
  rw [if_pos (val2 k k')] at e
  by_cases z : c ≤ 0 ∧ 0 ≤ d
  · rw [if_pos z] at e; cases e
  · rw [if_neg z] at e
    obtain ⟨x1, x2, x3, x4⟩ := ov4 e
    refine ⟨by omega, fun p q hp hq => ?_⟩
    rcases hp with rfl | rfl <;> rcases hq with rfl | rfl
    · exact fits_at x1
    · exact fits_at x2
    · exact fits_at x3
    · exact fits_at x4
theorem divR_plus (to : Bool) {p q : Int} (p0 : -4503599627370496 ≤ p) (p1 : p ≤ 4503599627370496) (q0 : 0 < q) (q1 : q ≤ 4503599627370496) : divR to p q = lim (rq to (p * 4294967296) q) := by
  rw [divR_pos to p q q0, if_pos (ck2_ok p0 p1 (by omega) q1)]
theorem divR_minus (to : Bool) {p q : Int} (p0 : -4503599627370496 ≤ p) (p1 : p ≤ 4503599627370496) (q0 : -4503599627370496 ≤ q) (q1 : q < 0) : divR to p q = lim (rq to (-(p * 4294967296)) (-q)) := by
  unfold divR divQ; rw [if_pos (ck2_ok p0 p1 q0 (by omega)), if_neg (by omega), if_pos q1]
theorem div_pt {a b c d l h x y : Int} (k : ckS a b = 0) (k' : ckS c d = 0) (e : sDivR a b c d = (l, h, 0)) (x0 : a ≤ x) (x1 : x ≤ b) (y0 : c ≤ y) (y1 : y ≤ d) : Fits l h (divR false x y) (divR true x y) := by
  have va := valS k
  have vb := valS k'
  obtain ⟨z, hc⟩ := div_corner k k' e
  rcases z with z | z
  · obtain ⟨P, q, hp, hq, h1⟩ := quo_low false (a := a * 4294967296) (b := b * 4294967296) (c := c) (d := d) (n := x * 4294967296) (m := y) z (by omega) (by omega) y0 y1
    obtain ⟨R, s, hr, hs, h2⟩ := quo_high true (a := a * 4294967296) (b := b * 4294967296) (c := c) (d := d) (n := x * 4294967296) (m := y) z (by omega) (by omega) y0 y1
    obtain ⟨p, rfl, hp'⟩ : ∃ p, P = p * 4294967296 ∧ (p = a ∨ p = b) := by rcases hp with rfl | rfl; exact ⟨a, rfl, Or.inl rfl⟩; exact ⟨b, rfl, Or.inr rfl⟩
    obtain ⟨r, rfl, hr'⟩ : ∃ p, R = p * 4294967296 ∧ (p = a ∨ p = b) := by rcases hr with rfl | rfl; exact ⟨a, rfl, Or.inl rfl⟩; exact ⟨b, rfl, Or.inr rfl⟩
    have f1 := hc p q hp' hq
    have f2 := hc r s hr' hs
    rw [divR_plus false (by omega) (by omega) (by omega) (by omega), divR_plus true (by omega) (by omega) (by omega) (by omega)] at f1 f2 ⊢
    exact fits_mk f1.1 f1.2.2.1 f2.2.1 f2.2.2.2 h1 h2 (rq_le _ _ (by omega))
  · obtain ⟨P, Q, hp, hq, h1⟩ := quo_low false (a := -(b * 4294967296)) (b := -(a * 4294967296)) (c := -d) (d := -c) (n := -(x * 4294967296)) (m := -y) (by omega) (by omega) (by omega) (by omega) (by omega)
    obtain ⟨R, S, hr, hs, h2⟩ := quo_high true (a := -(b * 4294967296)) (b := -(a * 4294967296)) (c := -d) (d := -c) (n := -(x * 4294967296)) (m := -y) (by omega) (by omega) (by omega) (by omega) (by omega)
    obtain ⟨p, rfl, hp'⟩ : ∃ p, P = -(p * 4294967296) ∧ (p = a ∨ p = b) := by rcases hp with rfl | rfl; exact ⟨b, rfl, Or.inr rfl⟩; exact ⟨a, rfl, Or.inl rfl⟩
    obtain ⟨r, rfl, hr'⟩ : ∃ p, R = -(p * 4294967296) ∧ (p = a ∨ p = b) := by rcases hr with rfl | rfl; exact ⟨b, rfl, Or.inr rfl⟩; exact ⟨a, rfl, Or.inl rfl⟩
    obtain ⟨q, rfl, hq'⟩ : ∃ q, Q = -q ∧ (q = c ∨ q = d) := by rcases hq with rfl | rfl; exact ⟨d, rfl, Or.inr rfl⟩; exact ⟨c, rfl, Or.inl rfl⟩
    obtain ⟨s, rfl, hs'⟩ : ∃ q, S = -q ∧ (q = c ∨ q = d) := by rcases hs with rfl | rfl; exact ⟨d, rfl, Or.inr rfl⟩; exact ⟨c, rfl, Or.inl rfl⟩
    have f1 := hc p q hp' hq'
    have f2 := hc r s hr' hs'
    rw [divR_minus false (by omega) (by omega) (by omega) (by omega), divR_minus true (by omega) (by omega) (by omega) (by omega)] at f1 f2 ⊢
    exact fits_mk f1.1 f1.2.2.1 f2.2.1 f2.2.2.2 h1 h2 (rq_le _ _ (by omega))
theorem btw_ok {u v : Int × Int} {l h : Int} (e : btw u v = (l, h, 0)) : u.2 = 0 ∧ v.2 = 0 ∧ u.1 = l ∧ v.1 = h := by
  unfold btw at e
  by_cases c : u.2 = 0
  · rw [if_pos c] at e
    by_cases c' : v.2 = 0
    · rw [if_pos c'] at e
      simp only [Prod.mk.injEq] at e
      exact ⟨c, c', e.1, e.2.1⟩
    · rw [if_neg c'] at e
      simp only [Prod.mk.injEq] at e
      exact absurd e.2.2 c'
  · rw [if_neg c] at e
    simp only [Prod.mk.injEq] at e
    exact absurd e.2.2 c
theorem btw_mk {u v : Int × Int} (c : u.2 = 0) (c' : v.2 = 0) : btw u v = (u.1, v.1, 0) := by unfold btw; rw [if_pos c, if_pos c']
theorem rootR_mono (m n : Int) (h0 : 0 ≤ m) (h : m ≤ n) (hn : n < 77371252455336267181195264) : rootR true m ≤ rootR true n := by
  have t := isqrt_mono m n h0 h hn
  have s := isqrt_spec m h0 (by omega)
  have s' := isqrt_spec n (by omega) hn
  unfold rootR
  simp only [true_and]
  by_cases e : isqrt m = isqrt n
  · by_cases c : isqrt m * isqrt m = m
    · rw [if_neg (by rw [c]; simp)]; split <;> omega
    · rw [if_pos c, if_pos (by rw [← e]; omega)]; omega
  · split <;> split <;> omega
theorem root_le (n : Int) : rootR false n ≤ rootR true n := by
  unfold rootR
  rw [if_neg (by simp)]
  split <;> omega
theorem sqrt_pt {a b l h x : Int} (k : ckS a b = 0) (e : sSqrtR a b = (l, h, 0)) (x0 : a ≤ x) (x1 : x ≤ b) : Fits l h (sqrtR false x) (sqrtR true x) := by
  have va := valS k
  unfold sSqrtR at e
  rw [if_pos k] at e
  obtain ⟨e1, e2, e3, e4⟩ := btw_ok e
  have a0 : 0 ≤ a := by
    by_cases c : 0 ≤ a
    · exact c
    · unfold sqrtR at e1; rw [if_neg (by omega)] at e1; cases e1
  have ok : ∀ p, 0 ≤ p → p ≤ 4503599627370496 → ckErr p = 0 ∧ 0 ≤ p := fun p p0 p1 => ⟨by unfold ckErr; rw [if_neg (by omega)], p0⟩
  unfold sqrtR at e3 e4 ⊢
  rw [if_pos (ok _ (by omega) (by omega))] at e3 e4 ⊢
  rw [if_pos (ok _ (by omega) (by omega))]
  simp only [] at e3 e4
  have m1 := isqrt_mono (a * 4294967296) (x * 4294967296) (by omega) (by omega) (by omega)
  have m2 := rootR_mono (x * 4294967296) (b * 4294967296) (by omega) (by omega) (by omega)
  have r1 : ∀ n, rootR false n = isqrt n := fun n => by unfold rootR; rw [if_neg (by simp)]
  rw [r1] at e3
  refine ⟨rfl, rfl, ?_, ?_⟩ <;> simp only [r1] <;> omega
theorem sq_le {u v : Int} (u0 : 0 ≤ u) (h : u ≤ v) : u * u ≤ v * v := Int.mul_le_mul h h u0 (by omega)
theorem mag_spec {a b x : Int} (x0 : a ≤ x) (x1 : x ≤ b) (a0 : -4503599627370496 ≤ a) (b0 : b ≤ 4503599627370496) : 0 ≤ (magR a b).1 ∧ (magR a b).1 ≤ (magR a b).2 ∧ (magR a b).2 ≤ 4503599627370496 ∧ ((magR a b).1 ≤ x ∧ x ≤ (magR a b).2 ∨ (magR a b).1 ≤ -x ∧ -x ≤ (magR a b).2) := by
  unfold magR
  split
  · simp only []; omega
  · split
    · simp only []; omega
    · simp only []; omega
theorem sqr_pt {a b l h x : Int} (k : ckS a b = 0) (e : sSqrR a b = (l, h, 0)) (x0 : a ≤ x) (x1 : x ≤ b) : Fits l h (mulR false x x) (mulR true x x) := by
  have va := valS k
  unfold sSqrR at e
  rw [if_pos k] at e
  obtain ⟨e1, e2, e3, e4⟩ := btw_ok e
  have mg := mag_spec x0 x1 va.1 va.2.2
  generalize magR a b = m at *
  obtain ⟨m0, m1⟩ := m
  simp only [] at e1 e2 e3 e4 mg
  have s1 : m0 * m0 ≤ x * x := by
    rcases mg.2.2.2 with t | t
    · exact sq_le mg.1 t.1
    · have := sq_le mg.1 t.1; rwa [Int.neg_mul_neg] at this
  have s2 : x * x ≤ m1 * m1 := by
    rcases mg.2.2.2 with t | t
    · exact sq_le (by omega) t.2
    · have := sq_le (by omega) t.2; rwa [Int.neg_mul_neg] at this
  rw [mulR_in false (by omega) (by omega) (by omega) (by omega)] at e1 e3
  rw [mulR_in true (by omega) (by omega) (by omega) (by omega)] at e2 e4
  rw [mulR_in false (by omega) (by omega) (by omega) (by omega), mulR_in true (by omega) (by omega) (by omega) (by omega)]
  exact fits_mk e1 (by omega) e2 (by omega) (rq_mono _ _ (by omega) s1) (rq_mono _ _ (by omega) s2) (rq_le _ _ (by omega))
theorem scale_pt {a b n d l h x : Int} (k : ckS a b = 0) (e : sScaleR a b n d = (l, h, 0)) (x0 : a ≤ x) (x1 : x ≤ b) : Fits l h (scaleR false x n d) (scaleR true x n d) := by
  have va := valS k
  unfold sScaleR at e
  rw [if_pos k] at e
  have ce : ∀ p, -4503599627370496 ≤ p → p ≤ 4503599627370496 → ckErr p = 0 := fun p p0 p1 => by unfold ckErr; rw [if_neg (by omega)]
  by_cases C : -4611686018427387904 ≤ n ∧ n ≤ 4611686018427387904 ∧ 1 ≤ d ∧ d ≤ 4611686018427387904
  · have hs : ∀ to p, -4503599627370496 ≤ p → p ≤ 4503599627370496 → scaleR to p n d = lim (rq to (p * n) d) := fun to p p0 p1 => by unfold scaleR; rw [if_pos ⟨ce p p0 p1, C⟩]
    rw [hs _ a (by omega) (by omega), hs _ b (by omega) (by omega), hs _ a (by omega) (by omega), hs _ b (by omega) (by omega)] at e
    rw [hs _ x (by omega) (by omega), hs _ x (by omega) (by omega)]
    by_cases ng : n < 0
    · rw [if_pos ng] at e
      obtain ⟨e1, e2, e3, e4⟩ := btw_ok e
      exact fits_mk e1 (by omega) e2 (by omega) (rq_mono _ _ (by omega) (Int.mul_le_mul_of_nonpos_right x1 (by omega))) (rq_mono _ _ (by omega) (Int.mul_le_mul_of_nonpos_right x0 (by omega))) (rq_le _ _ (by omega))
    · rw [if_neg ng] at e
      obtain ⟨e1, e2, e3, e4⟩ := btw_ok e
      exact fits_mk e1 (by omega) e2 (by omega) (rq_mono _ _ (by omega) (Int.mul_le_mul_of_nonneg_right x0 (by omega))) (rq_mono _ _ (by omega) (Int.mul_le_mul_of_nonneg_right x1 (by omega))) (rq_le _ _ (by omega))
  · have hs : ∀ to p, scaleR to p n d = (0, 2) := fun to p => by unfold scaleR; rw [if_neg (fun h => C h.2)]
    rw [hs, hs, hs, hs] at e
    have : btw (0, 2) (0, 2) = ((0 : Int), (0 : Int), (2 : Int)) := by decide
    rw [this] at e
    split at e <;> cases e

/-- A result, if there is one, has the other one within it. -/
def Ins (r s : Int × Int × Int) : Prop := s.2.2 ≠ 0 ∨ (r.2.2 = 0 ∧ s.1 ≤ r.1 ∧ r.2.1 ≤ s.2.1)
theorem ins_of {r s : Int × Int × Int} (h : ∀ l u, s = (l, u, 0) → r.2.2 = 0 ∧ l ≤ r.1 ∧ r.2.1 ≤ u) : Ins r s := by
  obtain ⟨l, u, e⟩ := s
  by_cases c : e = 0
  · subst c; exact Or.inr (h l u rfl)
  · exact Or.inl c
section
variable {a b c d p q r s : Int} (ka : ckS a b = 0) (kc : ckS c d = 0) (p0 : a ≤ p) (p1 : p ≤ q) (p2 : q ≤ b) (r0 : c ≤ r) (r1 : r ≤ s) (r2 : s ≤ d)
include ka kc p0 p1 p2 r0 r1 r2
theorem nar_ck : ckS p q = 0 ∧ ckS r s = 0 := by
  have va := valS ka
  have vb := valS kc
  exact ⟨ckS_ok (by omega) (by omega) (by omega), ckS_ok (by omega) (by omega) (by omega)⟩
theorem nar_add : Ins (sAddR p q r s) (sAddR a b c d) := by
  obtain ⟨k1, k2⟩ := nar_ck ka kc p0 p1 p2 r0 r1 r2
  refine ins_of fun l u e => ?_
  unfold sAddR at e ⊢
  rw [if_pos (val2 ka kc)] at e
  rw [if_pos (val2 k1 k2)]
  unfold limS at e
  by_cases g : ckS (a + c) (b + d) = 0
  · rw [if_pos g] at e
    have vg := valS g
    simp only [Prod.mk.injEq] at e
    rw [limS_ok (by omega) (by omega) (by omega)]
    exact ⟨rfl, by simp only []; omega, by simp only []; omega⟩
  · rw [if_neg g] at e; cases e
theorem nar_sub : Ins (sSubR p q r s) (sSubR a b c d) := by
  obtain ⟨k1, k2⟩ := nar_ck ka kc p0 p1 p2 r0 r1 r2
  refine ins_of fun l u e => ?_
  unfold sSubR at e ⊢
  rw [if_pos (val2 ka kc)] at e
  rw [if_pos (val2 k1 k2)]
  unfold limS at e
  by_cases g : ckS (a - d) (b - c) = 0
  · rw [if_pos g] at e
    have vg := valS g
    simp only [Prod.mk.injEq] at e
    rw [limS_ok (by omega) (by omega) (by omega)]
    exact ⟨rfl, by simp only []; omega, by simp only []; omega⟩
  · rw [if_neg g] at e; cases e
theorem nar_min : Ins (sMinR p q r s) (sMinR a b c d) := by
  obtain ⟨k1, k2⟩ := nar_ck ka kc p0 p1 p2 r0 r1 r2
  unfold sMinR
  rw [if_pos (val2 ka kc), if_pos (val2 k1 k2)]
  exact Or.inr ⟨rfl, by simp only []; omega, by simp only []; omega⟩
theorem nar_max : Ins (sMaxR p q r s) (sMaxR a b c d) := by
  obtain ⟨k1, k2⟩ := nar_ck ka kc p0 p1 p2 r0 r1 r2
  unfold sMaxR
  rw [if_pos (val2 ka kc), if_pos (val2 k1 k2)]
  exact Or.inr ⟨rfl, by simp only []; omega, by simp only []; omega⟩
theorem nar_hull : Ins (sHullR p q r s) (sHullR a b c d) := by
  obtain ⟨k1, k2⟩ := nar_ck ka kc p0 p1 p2 r0 r1 r2
  unfold sHullR
  rw [if_pos (val2 ka kc), if_pos (val2 k1 k2)]
  exact Or.inr ⟨rfl, by simp only []; omega, by simp only []; omega⟩
theorem nar_mul : Ins (sMulR p q r s) (sMulR a b c d) := by
  obtain ⟨k1, k2⟩ := nar_ck ka kc p0 p1 p2 r0 r1 r2
  refine ins_of fun l u e => ?_
  have vu : l ≤ 9223372036854775807 ∧ -9223372036854775808 ≤ u := by
    have f := mul_corner ka kc e a c (Or.inl rfl) (Or.inl rfl)
    have g1 := mulR_bd false a c
    have g2 := mulR_bd true a c
    exact ⟨by have := f.2.2.1; omega, by have := f.2.2.2; omega⟩
  obtain ⟨l', u', e', h1, h2⟩ := ov4_mk (lo := l) (hi := u) vu.1 vu.2 (at_fits (mul_pt ka kc e (x := p) (y := r) (by omega) (by omega) (by omega) (by omega))) (at_fits (mul_pt ka kc e (x := p) (y := s) (by omega) (by omega) (by omega) (by omega))) (at_fits (mul_pt ka kc e (x := q) (y := r) (by omega) (by omega) (by omega) (by omega))) (at_fits (mul_pt ka kc e (x := q) (y := s) (by omega) (by omega) (by omega) (by omega)))
  unfold sMulR
  rw [if_pos (val2 k1 k2)]
  simp only [four]
  rw [e']
  exact ⟨rfl, h1, h2⟩
theorem nar_div : Ins (sDivR p q r s) (sDivR a b c d) := by
  obtain ⟨k1, k2⟩ := nar_ck ka kc p0 p1 p2 r0 r1 r2
  refine ins_of fun l u e => ?_
  obtain ⟨z, hc⟩ := div_corner ka kc e
  have vu : l ≤ 9223372036854775807 ∧ -9223372036854775808 ≤ u := by
    have f := hc a c (Or.inl rfl) (Or.inl rfl)
    have g1 := divR_bd false a c
    have g2 := divR_bd true a c
    exact ⟨by have := f.2.2.1; omega, by have := f.2.2.2; omega⟩
  obtain ⟨l', u', e', h1, h2⟩ := ov4_mk (lo := l) (hi := u) vu.1 vu.2 (at_fits (div_pt ka kc e (x := p) (y := r) (by omega) (by omega) (by omega) (by omega))) (at_fits (div_pt ka kc e (x := p) (y := s) (by omega) (by omega) (by omega) (by omega))) (at_fits (div_pt ka kc e (x := q) (y := r) (by omega) (by omega) (by omega) (by omega))) (at_fits (div_pt ka kc e (x := q) (y := s) (by omega) (by omega) (by omega) (by omega)))
  unfold sDivR
  rw [if_pos (val2 k1 k2), if_neg (by omega)]
  simp only [four]
  rw [e']
  exact ⟨rfl, h1, h2⟩
end
section
variable {a b p q : Int} (ka : ckS a b = 0) (p0 : a ≤ p) (p1 : p ≤ q) (p2 : q ≤ b)
include ka p0 p1 p2
theorem nar_abs : Ins (sAbsR p q) (sAbsR a b) := by
  have va := valS ka
  have k1 : ckS p q = 0 := ckS_ok (by omega) (by omega) (by omega)
  unfold sAbsR
  rw [if_pos ka, if_pos k1]
  refine Or.inr ⟨rfl, ?_, ?_⟩ <;> simp only [] <;> unfold magR <;> (repeat' split) <;> simp only [] <;> omega
theorem mag_nar : (magR a b).1 ≤ (magR p q).1 ∧ (magR p q).2 ≤ (magR a b).2 ∧ 0 ≤ (magR a b).1 ∧ (magR p q).1 ≤ (magR p q).2 := by
  have va := valS ka
  unfold magR
  refine ⟨?_, ?_, ?_, ?_⟩ <;> (repeat' split) <;> simp only [] <;> omega
end

end Go.Proofs.Ytdaignklmbmcnaa
