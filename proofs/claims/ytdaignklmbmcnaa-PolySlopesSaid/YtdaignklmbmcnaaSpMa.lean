/-
  Plain mathematics of operations on intervals: corners, orders.
-/
import Derived.Test.YtdaignklmbmcnaaSpG
import Derived.Test.YtdaignklmbmcnaaFixV
namespace Go.Proofs.Ytdaignklmbmcnaa

theorem limS_ok {l h : Int} (h0 : -4503599627370496 ≤ l) (h1 : l ≤ h) (h2 : h ≤ 4503599627370496) : limS l h = (l, h, 0) := by unfold limS; rw [if_pos (ckS_ok h0 h1 h2)]
theorem add_comm2 (a b c d : Int) (k : ckS a b = 0) (k' : ckS c d = 0) : sAddR c d a b = sAddR a b c d := by
  unfold sAddR ck2S; rw [if_pos k, if_pos k', k, k', Int.add_comm c, Int.add_comm d]
theorem min_comm2 (a b c d : Int) (k : ckS a b = 0) (k' : ckS c d = 0) : sMinR c d a b = sMinR a b c d := by
  unfold sMinR ck2S; rw [if_pos k, if_pos k', k, k', Int.min_comm c, Int.min_comm d]
theorem max_comm2 (a b c d : Int) (k : ckS a b = 0) (k' : ckS c d = 0) : sMaxR c d a b = sMaxR a b c d := by
  unfold sMaxR ck2S; rw [if_pos k, if_pos k', k, k', Int.max_comm c, Int.max_comm d]
theorem hull_comm2 (a b c d : Int) (k : ckS a b = 0) (k' : ckS c d = 0) : sHullR c d a b = sHullR a b c d := by
  unfold sHullR ck2S; rw [if_pos k, if_pos k', k, k', Int.min_comm c, Int.max_comm d]
theorem meet_comm2 (a b c d : Int) (k : ckS a b = 0) (k' : ckS c d = 0) : sMeetR c d a b = sMeetR a b c d := by
  unfold sMeetR ck2S; rw [if_pos k, if_pos k', k, k', Int.min_comm d, Int.max_comm c]
theorem atMul_comm (x y : Int) : atR (mulR false y x) (mulR true y x) = atR (mulR false x y) (mulR true x y) := by rw [mulR_comm false, mulR_comm true]
theorem atMul_err (x y : Int) : (atR (mulR false x y) (mulR true x y)).2.2 = 0 ∨ (atR (mulR false x y) (mulR true x y)).2.2 = 2 ∨ (atR (mulR false x y) (mulR true x y)).2.2 = 6 := by
  unfold atR mulR lim
  repeat' split
  all_goals simp_all
theorem mul_comm2 (a b c d : Int) (k : ckS a b = 0) (k' : ckS c d = 0) : sMulR c d a b = sMulR a b c d := by
  obtain ⟨a0, a1, a2⟩ : -4503599627370496 ≤ a ∧ a ≤ b ∧ b ≤ 4503599627370496 := by
    rcases ckS_cases a b with ⟨_, h0, h1, h2⟩ | ⟨e, _⟩
    · exact ⟨h0, h1, h2⟩
    · omega
  obtain ⟨b0, b1, b2⟩ : -4503599627370496 ≤ c ∧ c ≤ d ∧ d ≤ 4503599627370496 := by
    rcases ckS_cases c d with ⟨_, h0, h1, h2⟩ | ⟨e, _⟩
    · exact ⟨h0, h1, h2⟩
    · omega
  unfold sMulR ck2S
  rw [if_pos k, if_pos k', k, k']
  simp only [four]
  rw [atMul_comm a c, atMul_comm b c, atMul_comm a d, atMul_comm b d]
  have key : ∀ x y : Int, -4503599627370496 ≤ x → x ≤ 4503599627370496 → -4503599627370496 ≤ y → y ≤ 4503599627370496 → (atR (mulR false x y) (mulR true x y)).2.2 = 0 ∨ (atR (mulR false x y) (mulR true x y)).2.2 = 6 := by
    intro x y x0 x1 y0 y1
    unfold atR mulR
    rw [if_pos (ck2_ok x0 x1 y0 y1), if_pos (ck2_ok x0 x1 y0 y1)]
    unfold lim
    repeat' split
    all_goals simp_all
  have e1 := key a c (by omega) (by omega) (by omega) (by omega)
  have e2 := key a d (by omega) (by omega) (by omega) (by omega)
  have e3 := key b c (by omega) (by omega) (by omega) (by omega)
  have e4 := key b d (by omega) (by omega) (by omega) (by omega)
  generalize atR (mulR false a c) (mulR true a c) = r1 at *
  generalize atR (mulR false a d) (mulR true a d) = r2 at *
  generalize atR (mulR false b c) (mulR true b c) = r3 at *
  generalize atR (mulR false b d) (mulR true b d) = r4 at *
  obtain ⟨l1, h1, x1⟩ := r1
  obtain ⟨l2, h2, x2⟩ := r2
  obtain ⟨l3, h3, x3⟩ := r3
  obtain ⟨l4, h4, x4⟩ := r4
  simp only [] at e1 e2 e3 e4
  have hl : lows [(l1, h1, x1), (l3, h3, x3), (l2, h2, x2), (l4, h4, x4)] = lows [(l1, h1, x1), (l2, h2, x2), (l3, h3, x3), (l4, h4, x4)] := by simp only [lows, List.foldl]; omega
  have hh : highs [(l1, h1, x1), (l3, h3, x3), (l2, h2, x2), (l4, h4, x4)] = highs [(l1, h1, x1), (l2, h2, x2), (l3, h3, x3), (l4, h4, x4)] := by simp only [highs, List.foldl]; omega
  have he : errOf [(l1, h1, x1), (l3, h3, x3), (l2, h2, x2), (l4, h4, x4)] = errOf [(l1, h1, x1), (l2, h2, x2), (l3, h3, x3), (l4, h4, x4)] := by
    simp only [errOf, List.foldl]
    rcases e1 with rfl | rfl <;> rcases e2 with rfl | rfl <;> rcases e3 with rfl | rfl <;> rcases e4 with rfl | rfl <;> rfl
  unfold ovR
  rw [hl, hh, he]
theorem sub_neg2 (a b c d : Int) (k : ckS a b = 0) (k' : ckS c d = 0) (k2 : ckS (-d) (-c) = 0) : sAddR a b (-d) (-c) = sSubR a b c d := by
  unfold sAddR sSubR ck2S; rw [if_pos k, k', k2, if_pos k]; simp [Int.sub_eq_add_neg]
theorem ov_one {l h : Int} (f : Int → Int → Int × Int × Int) (h0 : -4503599627370496 ≤ l) (h1 : l ≤ h) (h2 : h ≤ 4503599627370496) (e1 : f l 4294967296 = (l, l, 0)) (e2 : f h 4294967296 = (h, h, 0)) : ovR (four f l h 4294967296 4294967296) = (l, h, 0) := by
  simp only [four, e1, e2, ovR, errOf, lows, highs, List.foldl]
  simp
  omega
theorem mul_one2 (a b : Int) (k : ckS a b = 0) : sMulR a b 4294967296 4294967296 = (a, b, 0) := by
  rcases ckS_cases a b with ⟨_, h0, h1, h2⟩ | ⟨e, _⟩
  · unfold sMulR ck2S
    rw [if_pos k, if_pos (by decide)]
    refine ov_one _ h0 h1 h2 ?_ ?_
    · rw [mulR_one false a h0 (by omega), mulR_one true a h0 (by omega)]; rfl
    · rw [mulR_one false b (by omega) h2, mulR_one true b (by omega) h2]; rfl
  · omega
theorem div_one2 (a b : Int) (k : ckS a b = 0) : sDivR a b 4294967296 4294967296 = (a, b, 0) := by
  rcases ckS_cases a b with ⟨_, h0, h1, h2⟩ | ⟨e, _⟩
  · unfold sDivR ck2S
    rw [if_pos k, if_pos (by decide), if_neg (by decide)]
    refine ov_one _ h0 h1 h2 ?_ ?_
    · rw [divR_one false a h0 (by omega), divR_one true a h0 (by omega)]; rfl
    · rw [divR_one false b (by omega) h2, divR_one true b (by omega) h2]; rfl
  · omega
theorem ov4 {r1 r2 r3 r4 : Int × Int × Int} {lo hi : Int} (h : ovR [r1, r2, r3, r4] = (lo, hi, 0)) :
    (r1.2.2 = 0 ∧ lo ≤ r1.1 ∧ r1.2.1 ≤ hi) ∧ (r2.2.2 = 0 ∧ lo ≤ r2.1 ∧ r2.2.1 ≤ hi) ∧ (r3.2.2 = 0 ∧ lo ≤ r3.1 ∧ r3.2.1 ≤ hi) ∧ (r4.2.2 = 0 ∧ lo ≤ r4.1 ∧ r4.2.1 ≤ hi) := by
  obtain ⟨l1, h1, x1⟩ := r1
  obtain ⟨l2, h2, x2⟩ := r2
  obtain ⟨l3, h3, x3⟩ := r3
  obtain ⟨l4, h4, x4⟩ := r4
  simp only [ovR, errOf, lows, highs, List.foldl, if_pos] at h
  by_cases e1 : x1 = 0
  · by_cases e2 : x2 = 0
    · by_cases e3 : x3 = 0
      · by_cases e4 : x4 = 0
        · subst e1 e2 e3 e4
          simp only [if_pos, Prod.mk.injEq] at h
          refine ⟨⟨rfl, ?_, ?_⟩, ⟨rfl, ?_, ?_⟩, ⟨rfl, ?_, ?_⟩, ⟨rfl, ?_, ?_⟩⟩ <;> simp only [] <;> omega
        · exfalso; simp [e1, e2, e3, e4] at h
      · exfalso; simp [e1, e2, e3] at h
    · exfalso; simp [e1, e2] at h
  · exfalso; simp [e1] at h
theorem ov4_mk {r1 r2 r3 r4 : Int × Int × Int} {lo hi : Int} (hlo : lo ≤ 9223372036854775807) (hhi : -9223372036854775808 ≤ hi)
    (h1 : r1.2.2 = 0 ∧ lo ≤ r1.1 ∧ r1.2.1 ≤ hi) (h2 : r2.2.2 = 0 ∧ lo ≤ r2.1 ∧ r2.2.1 ≤ hi) (h3 : r3.2.2 = 0 ∧ lo ≤ r3.1 ∧ r3.2.1 ≤ hi) (h4 : r4.2.2 = 0 ∧ lo ≤ r4.1 ∧ r4.2.1 ≤ hi) :
    ∃ l h, ovR [r1, r2, r3, r4] = (l, h, 0) ∧ lo ≤ l ∧ h ≤ hi := by
  refine ⟨lows [r1, r2, r3, r4], highs [r1, r2, r3, r4], ?_, ?_, ?_⟩
  · unfold ovR; rw [if_pos]; simp [errOf, h1.1, h2.1, h3.1, h4.1]
  · simp only [lows, List.foldl]; omega
  · simp only [highs, List.foldl]; omega
theorem at_ok {x y : Int × Int} (h : (atR x y).2.2 = 0) : x.2 = 0 ∧ y.2 = 0 ∧ (atR x y).1 = x.1 ∧ (atR x y).2.1 = y.1 := by
  unfold atR at h ⊢
  by_cases e : x.2 = 0
  · rw [if_pos e] at h; rw [if_pos e]; exact ⟨e, h, rfl, rfl⟩
  · rw [if_neg e] at h; exact absurd h e
theorem at_mk {x y : Int × Int} (h : x.2 = 0) (k : y.2 = 0) : atR x y = (x.1, y.1, 0) := by unfold atR; rw [if_pos h, k]
theorem mulR_sq (to : Bool) (a : Int) : mulR to (-a) (-a) = mulR to a a := by
  unfold mulR ck2 ckErr
  rw [Int.neg_mul_neg]
  have : ((-a < -4503599627370496 ∨ 4503599627370496 < -a) ↔ (a < -4503599627370496 ∨ 4503599627370496 < a)) := by omega
  simp only [this]
theorem sqr_in {a b lo hi : Int} (k : ckS a b = 0) (h : sMulR a b a b = (lo, hi, 0)) : ∃ l u, sSqrR a b = (l, u, 0) ∧ lo ≤ l ∧ u ≤ hi := by
  obtain ⟨a0, a1, a2⟩ : -4503599627370496 ≤ a ∧ a ≤ b ∧ b ≤ 4503599627370496 := by
    rcases ckS_cases a b with ⟨_, h0, h1, h2⟩ | ⟨e, _⟩
    · exact ⟨h0, h1, h2⟩
    · omega
  unfold sMulR ck2S at h
  rw [if_pos k, if_pos k] at h
  obtain ⟨⟨x1, p1, q1⟩, ⟨x2, p2, q2⟩, ⟨x3, p3, q3⟩, ⟨x4, p4, q4⟩⟩ := ov4 h
  obtain ⟨d1, u1, e1, f1⟩ := at_ok x1
  obtain ⟨d2, u2, e2, f2⟩ := at_ok x2
  obtain ⟨d4, u4, e4, f4⟩ := at_ok x4
  rw [e1] at p1
  rw [f1] at q1
  rw [e2] at p2
  rw [e4] at p4
  rw [f4] at q4
  unfold sSqrR btw
  rw [if_pos k]
  by_cases ha : 0 ≤ a
  · rw [show magR a b = (a, b) by unfold magR; rw [if_pos ha]]
    exact ⟨_, _, by simp only []; rw [if_pos d1, if_pos u4], p1, q4⟩
  · by_cases hb : b ≤ 0
    · rw [show magR a b = (-b, -a) by unfold magR; rw [if_neg ha, if_pos hb]]
      simp only [mulR_sq]
      exact ⟨_, _, by rw [if_pos d4, if_pos u1], p4, q1⟩
    · rw [show magR a b = (0, max (-a) b) by unfold magR; rw [if_neg ha, if_neg hb]]
      have z : mulR false 0 0 = (0, 0) := by decide
      have n : (mulR false a b).1 ≤ 0 := by
        unfold mulR at d2 ⊢
        rw [if_pos (ck2_ok (by omega) (by omega) (by omega) (by omega))] at d2 ⊢
        unfold lim at d2 ⊢
        split
        · simp
        · simp only []
          have : a * b ≤ 0 := Int.mul_nonpos_of_nonpos_of_nonneg (by omega) (by omega)
          unfold rq; simp only [Bool.false_eq_true, if_false]; omega
      simp only [z]
      by_cases hm : -a ≤ b
      · rw [show max (-a) b = b by omega]
        exact ⟨_, _, by rw [if_pos trivial, if_pos u4], by omega, q4⟩
      · rw [show max (-a) b = -a by omega, mulR_sq]
        exact ⟨_, _, by rw [if_pos trivial, if_pos u1], by omega, q1⟩

end Go.Proofs.Ytdaignklmbmcnaa
