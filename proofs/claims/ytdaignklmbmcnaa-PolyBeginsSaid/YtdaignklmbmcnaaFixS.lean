/-
  The statements' helpers pair, opposite, rises; arithmetic of rounded results.
-/
import Derived.Test.YtdaignklmbmcnaaFixJ
namespace Go.Proofs.Ytdaignklmbmcnaa
open Go.RowKit

/-- Two results, rounded down and up, that belong together. -/
def PairOk (x y : Int × Int) : Prop := x.2 = 0 ∧ y.2 = 0 ∧ (x.1 = y.1 ∨ x.1 + 1 = y.1) ∨ x.2 = y.2 ∧ x.2 ≠ 0 ∨ x.2 = 0 ∧ y.2 = 6 ∧ x.1 = 4503599627370496 ∨ y.2 = 0 ∧ x.2 = 6 ∧ y.1 = -4503599627370496

theorem rq_up (n d : Int) (hd : 0 < d) : rq true n d = rq false n d ∨ rq true n d = rq false n d + 1 := by
  rw [← rdiv_rq _ _ _ hd, ← rdiv_rq _ _ _ hd]
  unfold rdiv
  simp
  omega

theorem pair_lim (n d : Int) (hd : 0 < d) : PairOk (lim (rq false n d)) (lim (rq true n d)) := by
  have h := rq_up n d hd
  unfold PairOk
  rcases lim_cases (rq false n d) with ⟨h1, h2⟩ | ⟨h1, h2⟩ <;> rcases lim_cases (rq true n d) with ⟨h3, h4⟩ | ⟨h3, h4⟩ <;> rw [h1, h3] <;> simp <;> omega

theorem pair_refl (x : Int × Int) (h : x.2 ≠ 0) : PairOk x x := Or.inr (Or.inl ⟨rfl, h⟩)
theorem pair_mul (a b : Int) : PairOk (mulR false a b) (mulR true a b) := by
  unfold mulR; split
  · exact pair_lim _ _ (by omega)
  · exact pair_refl _ (by simp)
theorem divQ_eq (_to : Bool) (a b : Int) (hb : b ≠ 0) : ∃ n d, 0 < d ∧ ∀ to, divQ to a b = rq to n d := by
  unfold divQ
  by_cases h : b < 0
  · exact ⟨-(a * 4294967296), -b, by omega, fun to => by rw [if_pos h]⟩
  · exact ⟨_, b, by omega, fun to => by rw [if_neg h]⟩
theorem pair_div (a b : Int) : PairOk (divR false a b) (divR true a b) := by
  unfold divR; split
  · split
    · exact pair_refl _ (by simp)
    · obtain ⟨n, d, hd, h⟩ := divQ_eq false a b ‹_›
      rw [h, h]; exact pair_lim n d hd
  · exact pair_refl _ (by simp)
theorem pair_scale (a n d : Int) : PairOk (scaleR false a n d) (scaleR true a n d) := by
  unfold scaleR; split
  · exact pair_lim _ _ (by omega)
  · exact pair_refl _ (by simp)
theorem pair_sqrt (a : Int) : PairOk (sqrtR false a) (sqrtR true a) := by
  unfold sqrtR; split
  · left; unfold rootR; simp; omega
  · exact pair_refl _ (by simp)

theorem lim_bd (q : Int) : -4503599627370496 ≤ (lim q).1 ∧ (lim q).1 ≤ 4503599627370496 := by
  rcases lim_cases q with ⟨h, h1, h2⟩ | ⟨h, -⟩ <;> rw [h] <;> simp <;> omega
theorem mulR_bd (to : Bool) (a b : Int) : -4503599627370496 ≤ (mulR to a b).1 ∧ (mulR to a b).1 ≤ 4503599627370496 := by
  unfold mulR; split
  · exact lim_bd _
  · simp
theorem divR_bd (to : Bool) (a b : Int) : -4503599627370496 ≤ (divR to a b).1 ∧ (divR to a b).1 ≤ 4503599627370496 := by
  unfold divR; split
  · split
    · simp
    · exact lim_bd _
  · simp
theorem scaleR_bd (to : Bool) (a n d : Int) : -4503599627370496 ≤ (scaleR to a n d).1 ∧ (scaleR to a n d).1 ≤ 4503599627370496 := by
  unfold scaleR; split
  · exact lim_bd _
  · simp
theorem sqrtR_bd (to : Bool) (a : Int) : -4503599627370496 ≤ (sqrtR to a).1 ∧ (sqrtR to a).1 ≤ 4503599627370496 := by
  unfold sqrtR; split
  · rename_i h
    have hc := ckErr_cases a
    have := rootR_bd to (a * 4294967296) (by omega) (by omega)
    simp only
    omega
  · simp

theorem ck2_ok {a b : Int} (a0 : -4503599627370496 ≤ a) (a1 : a ≤ 4503599627370496) (b0 : -4503599627370496 ≤ b) (b1 : b ≤ 4503599627370496) : ck2 a b = 0 := by
  unfold ck2; rw [ckErr_ok a0 a1, ckErr_ok b0 b1]; rfl
theorem lim_ok {q : Int} (h0 : -4503599627370496 ≤ q) (h1 : q ≤ 4503599627370496) : lim q = (q, 0) := by unfold lim; rw [if_neg (by omega)]
theorem rq_exact (to : Bool) (a d : Int) (hd : d ≠ 0) : rq to (a * d) d = a := by
  unfold rq; cases to
  · simp [Int.mul_ediv_cancel _ hd]
  · rw [← Int.neg_mul]; simp [Int.mul_ediv_cancel _ hd]
theorem mulR_comm (to : Bool) (a b : Int) : mulR to a b = mulR to b a := by
  unfold mulR
  rw [Int.mul_comm]
  have : (ck2 a b = 0) ↔ (ck2 b a = 0) := by rcases ck2_cases a b with h | h <;> rcases ck2_cases b a with k | k <;> omega
  by_cases h : ck2 a b = 0
  · rw [if_pos h, if_pos (this.1 h)]
  · rw [if_neg h, if_neg (fun k => h (this.2 k))]
theorem mulR_one (to : Bool) (a : Int) (a0 : -4503599627370496 ≤ a) (a1 : a ≤ 4503599627370496) : mulR to a 4294967296 = (a, 0) := by
  unfold mulR
  rw [if_pos (ck2_ok a0 a1 (by omega) (by omega)), rq_exact _ _ _ (by omega), lim_ok a0 a1]
theorem divR_one (to : Bool) (a : Int) (a0 : -4503599627370496 ≤ a) (a1 : a ≤ 4503599627370496) : divR to a 4294967296 = (a, 0) := by
  unfold divR divQ
  rw [if_pos (ck2_ok a0 a1 (by omega) (by omega)), if_neg (by omega), if_neg (by omega), rq_exact _ _ _ (by omega), lim_ok a0 a1]
theorem scaleR_same (to : Bool) (a n : Int) (a0 : -4503599627370496 ≤ a) (a1 : a ≤ 4503599627370496) (n0 : 1 ≤ n) (n1 : n ≤ 4611686018427387904) : scaleR to a n n = (a, 0) := by
  unfold scaleR
  rw [if_pos ⟨ckErr_ok a0 a1, by omega, by omega, by omega, by omega⟩, rq_exact _ _ _ (by omega), lim_ok a0 a1]

end Go.Proofs.Ytdaignklmbmcnaa
