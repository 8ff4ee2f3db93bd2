/-
  Mathematics of vectors of intervals within vectors.
-/
import Derived.Test.YtnfapdmbkpkkdaaVcN
namespace Go.Proofs.Ytnfapdmbkpkkdaa

theorem nar_sqrt {a b p q : Int} (ka : ckS a b = 0) (p0 : a ≤ p) (p1 : p ≤ q) (p2 : q ≤ b) : Ins (sSqrtR p q) (sSqrtR a b) := by
  refine ins_of fun l u e => ?_
  have va := valS ka
  have f1 := sqrt_pt ka e p0 (by omega : p ≤ b)
  have f2 := sqrt_pt ka e (by omega : a ≤ q) p2
  unfold sSqrtR
  rw [if_pos (ckS_ok (by omega) p1 (by omega)), btw_mk f1.1 f2.2.1]
  exact ⟨rfl, f1.2.2.1, f2.2.2.2⟩
theorem nar_sqr {a b p q : Int} (ka : ckS a b = 0) (p0 : a ≤ p) (p1 : p ≤ q) (p2 : q ≤ b) : Ins (sSqrR p q) (sSqrR a b) := by
  refine ins_of fun l u e => ?_
  have va := valS ka
  have hm := mag_nar ka p0 p1 p2
  have h2 := (mag_spec (a := a) (b := b) (x := a) (by omega) (by omega) (by omega) (by omega)).2.2.1
  unfold sSqrR at e ⊢
  rw [if_pos ka] at e
  rw [if_pos (ckS_ok (by omega) p1 (by omega))]
  obtain ⟨e1, e2, e3, e4⟩ := btw_ok e
  generalize (magR a b).1 = M1 at *
  generalize (magR a b).2 = M2 at *
  generalize (magR p q).1 = m1 at *
  generalize (magR p q).2 = m2 at *
  rw [mulR_in false (by omega) (by omega) (by omega) (by omega)] at e1 e3
  rw [mulR_in true (by omega) (by omega) (by omega) (by omega)] at e2 e4
  have f : Fits l u (mulR false m1 m1) (mulR true m2 m2) := by
    rw [mulR_in false (by omega) (by omega) (by omega) (by omega), mulR_in true (by omega) (by omega) (by omega) (by omega)]
    have s1 := sq_le hm.2.2.1 hm.1
    have s2 := sq_le (u := m2) (v := M2) (by omega) hm.2.1
    have s3 := sq_le (u := m1) (v := m2) (by omega) hm.2.2.2
    refine fits_mk e1 (by omega) e2 (by omega) (rq_mono _ _ (by omega) s1) (rq_mono _ _ (by omega) s2) ?_
    exact Int.le_trans (rq_le _ _ (by omega)) (rq_mono _ _ (by omega) s3)
  rw [btw_mk f.1 f.2.1]
  exact ⟨rfl, f.2.2.1, f.2.2.2⟩
theorem ovR_val {x y z u : Int × Int × Int} (hx : -4503599627370496 ≤ x.1 ∧ x.2.1 ≤ 4503599627370496) (hy : -4503599627370496 ≤ y.1 ∧ y.2.1 ≤ 4503599627370496) (hz : -4503599627370496 ≤ z.1 ∧ z.2.1 ≤ 4503599627370496) (hu : -4503599627370496 ≤ u.1 ∧ u.2.1 ≤ 4503599627370496) :
    -4503599627370496 ≤ (ovR [x, y, z, u]).1 ∧ (ovR [x, y, z, u]).2.1 ≤ 4503599627370496 := by
  unfold ovR
  split
  · have h1 : lows [x, y, z, u] = min (min (min (min 9223372036854775807 x.1) y.1) z.1) u.1 := rfl
    have h2 : highs [x, y, z, u] = max (max (max (max (-9223372036854775808) x.2.1) y.2.1) z.2.1) u.2.1 := rfl
    simp only [h1, h2]
    omega
  · simp
theorem atR_val {D U : Int} : -4503599627370496 ≤ (atR (lim D) (lim U)).1 ∧ (atR (lim D) (lim U)).2.1 ≤ 4503599627370496 := by
  have h1 := lim_bd D
  have h2 := lim_bd U
  unfold atR
  split
  · exact ⟨h1.1, h2.2⟩
  · simp
/-- A product of valid intervals is valid, or an error with 0. -/
theorem mul_val {a b c d : Int} (k : ckS a b = 0) (k' : ckS c d = 0) : ckS (sMulR a b c d).1 (sMulR a b c d).2.1 = 0 := by
  have va := valS k
  have vb := valS k'
  obtain ⟨l, h, e⟩ : ∃ l h, ((sMulR a b c d).1, (sMulR a b c d).2.1) = (l, h) := ⟨_, _, rfl⟩
  by_cases z : (sMulR a b c d).2.2 = 0
  · have e0 : sMulR a b c d = ((sMulR a b c d).1, (sMulR a b c d).2.1, 0) := by rw [← z]
    have f := mul_corner k k' e0 a c (.inl rfl) (.inl rfl)
    have g : ∀ x y : Int, (x = a ∨ x = b) → (y = c ∨ y = d) → -4503599627370496 ≤ (atR (mulR false x y) (mulR true x y)).1 ∧ (atR (mulR false x y) (mulR true x y)).2.1 ≤ 4503599627370496 := fun x y hx hy => by
      rw [mulR_in false (by omega) (by omega) (by omega) (by omega), mulR_in true (by omega) (by omega) (by omega) (by omega)]
      exact atR_val
    have v := ovR_val (g a c (.inl rfl) (.inl rfl)) (g a d (.inl rfl) (.inr rfl)) (g b c (.inr rfl) (.inl rfl)) (g b d (.inr rfl) (.inr rfl))
    have e1 : sMulR a b c d = ovR [atR (mulR false a c) (mulR true a c), atR (mulR false a d) (mulR true a d), atR (mulR false b c) (mulR true b c), atR (mulR false b d) (mulR true b d)] := by
      unfold sMulR; rw [if_pos (val2 k k')]; rfl
    rw [← e1] at v
    have r := rq_le (a * c) 4294967296 (by omega)
    rw [mulR_in false (by omega) (by omega) (by omega) (by omega), mulR_in true (by omega) (by omega) (by omega) (by omega)] at f
    have l1 := lim_val f.1
    have l2 := lim_val f.2.1
    have f3 := f.2.2.1
    have f4 := f.2.2.2
    exact ckS_ok v.1 (by omega) v.2
  · have : sMulR a b c d = (0, 0, (sMulR a b c d).2.2) := by
      unfold sMulR at z ⊢
      rw [if_pos (val2 k k')] at z ⊢
      unfold ovR at z ⊢
      split at z
      · exact absurd rfl z
      · rw [if_neg (by assumption)]
    rw [show (sMulR a b c d).1 = 0 by rw [this], show (sMulR a b c d).2.1 = 0 by rw [this]]
    decide
end Go.Proofs.Ytnfapdmbkpkkdaa
