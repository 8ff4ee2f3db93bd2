/-
  Arithmetic of rounded results: negatives, orders, squares.
-/
import Derived.Test.YtdaignklmbmcnaaFixS
namespace Go.Proofs.Ytdaignklmbmcnaa
open Go.RowKit

/-- The result with its number negated. -/
def negP (x : Int × Int) : Int × Int := (-x.1, x.2)
theorem lim_neg (q : Int) : lim (-q) = negP (lim q) := by
  unfold lim negP; split <;> split <;> simp_all <;> omega
theorem rq_swap (n d : Int) : rq false (-n) d = -(rq true n d) := rq_neg false n d
theorem ck2_neg (a b : Int) : (ck2 (-a) b = 0 ↔ ck2 a b = 0) ∧ (ck2 a (-b) = 0 ↔ ck2 a b = 0) := by
  rcases ck2_cases a b with h | h <;> rcases ck2_cases (-a) b with k | k <;> rcases ck2_cases a (-b) with l | l <;> omega
theorem mulR_neg (a b : Int) : mulR false (-a) b = negP (mulR true a b) := by
  unfold mulR
  by_cases h : ck2 a b = 0
  · rw [if_pos h, if_pos ((ck2_neg a b).1.2 h), Int.neg_mul, rq_swap, lim_neg]
  · rw [if_neg h, if_neg (fun k => h ((ck2_neg a b).1.1 k))]; rfl
theorem divQ_neg (a b : Int) (hb : b ≠ 0) : divQ false a (-b) = -(divQ true a b) := by
  unfold divQ
  by_cases h : b < 0
  · rw [if_neg (by omega), if_pos h]
    have := rq_swap (-(a * 4294967296)) (-b)
    rw [Int.neg_neg] at this
    exact this
  · rw [if_pos (by omega), if_neg h, Int.neg_neg]
    exact rq_swap _ _
theorem divR_neg (a b : Int) : divR false a (-b) = negP (divR true a b) := by
  unfold divR
  by_cases h : ck2 a b = 0
  · rw [if_pos h, if_pos ((ck2_neg a b).2.2 h)]
    by_cases hb : b = 0
    · subst hb; rfl
    · rw [if_neg hb, if_neg (by omega), divQ_neg a b hb, lim_neg]
  · rw [if_neg h, if_neg (fun k => h ((ck2_neg a b).2.1 k))]; rfl
theorem scaleR_neg (a n d : Int) : scaleR false a (-n) d = negP (scaleR true a n d) := by
  unfold scaleR
  by_cases h : ckErr a = 0 ∧ -4611686018427387904 ≤ n ∧ n ≤ 4611686018427387904 ∧ 1 ≤ d ∧ d ≤ 4611686018427387904
  · rw [if_pos h, if_pos (by omega), Int.mul_neg, rq_swap, lim_neg]
  · rw [if_neg h, if_neg (by omega)]; rfl
theorem decR_neg (n k : Int) : (decR (-n) k).2.2 = (decR n k).2.2 ∧ (decR n k).1 = -(decR (-n) k).2.1 ∧ (decR n k).2.1 = -(decR (-n) k).1 := by
  unfold decR
  by_cases h : k < 0 ∨ 13 ≤ k
  · rw [if_pos h, if_pos h]; simp
  · rw [if_neg h, if_neg h]
    have e1 : rq false (-n * 4294967296) (10 ^ k.toNat : Nat) = -(rq true (n * 4294967296) (10 ^ k.toNat : Nat)) := by rw [Int.neg_mul]; exact rq_swap _ _
    have e2 : rq true (-n * 4294967296) (10 ^ k.toNat : Nat) = -(rq false (n * 4294967296) (10 ^ k.toNat : Nat)) := by rw [Int.neg_mul]; exact rq_neg true _ _
    rw [e1, e2, lim_neg, lim_neg]
    generalize lim (rq false (n * 4294967296) (10 ^ k.toNat : Nat)) = x
    generalize lim (rq true (n * 4294967296) (10 ^ k.toNat : Nat)) = y
    by_cases hx : x.2 = 0 ∧ y.2 = 0
    · have e3 : (negP y).2 = 0 ∧ (negP x).2 = 0 := ⟨hx.2, hx.1⟩
      rw [if_pos hx, if_pos e3]; simp
    · have e3 : ¬ ((negP y).2 = 0 ∧ (negP x).2 = 0) := fun k => hx ⟨k.2, k.1⟩
      rw [if_neg hx, if_neg e3]; simp
theorem decR_le (n k : Int) : (decR n k).1 ≤ (decR n k).2.1 := by
  unfold decR
  split
  · simp
  · split
    · have hd : (0 : Int) < (10 ^ k.toNat : Nat) := by have := Nat.pow_pos (n := k.toNat) (show 0 < 10 by omega); omega
      have := rq_up (n * 4294967296) _ hd
      simp only; omega
    · simp
theorem decR_bd (n k : Int) : -4503599627370496 ≤ (decR n k).1 ∧ (decR n k).1 ≤ 4503599627370496 ∧ -4503599627370496 ≤ (decR n k).2.1 ∧ (decR n k).2.1 ≤ 4503599627370496 := by
  unfold decR
  split
  · simp
  · split
    · rename_i h
      have a := lim_cases (rq false (n * 4294967296) (10 ^ k.toNat : Nat))
      have b := lim_cases (rq true (n * 4294967296) (10 ^ k.toNat : Nat))
      rcases a with ⟨a, a1, a2⟩ | ⟨a, -⟩
      · rcases b with ⟨b, b1, b2⟩ | ⟨b, -⟩
        · exact ⟨a1, a2, b1, b2⟩
        · rw [b] at h; simp at h
      · rw [a] at h; simp at h
    · simp

/-- Results in order, if there are both. -/
def Rises (x y : Int × Int) : Prop := x.2 = 0 → y.2 = 0 → x.1 ≤ y.1
theorem lim_rises {p q : Int} (h : p ≤ q) : Rises (lim p) (lim q) := by
  intro h1 h2
  rcases lim_cases p with ⟨e, -⟩ | ⟨e, -⟩ <;> rcases lim_cases q with ⟨f, -⟩ | ⟨f, -⟩ <;> rw [e] at h1 ⊢ <;> rw [f] at h2 ⊢ <;> simp at h1 h2 ⊢ <;> omega
theorem rq_mono (to : Bool) {m n : Int} (d : Int) (hd : 0 < d) (h : m ≤ n) : rq to m d ≤ rq to n d := by
  unfold rq
  cases to
  · exact Int.ediv_le_ediv hd h
  · have := Int.ediv_le_ediv hd (show -n ≤ -m by omega)
    simp only [if_true]; omega
theorem mulR_rises (to : Bool) (a b c : Int) (h : a ≤ b) (hc : 0 ≤ c) : Rises (mulR to a c) (mulR to b c) := by
  intro h1 h2
  unfold mulR at *
  split at h1
  · split at h2
    · rw [if_pos ‹_›, if_pos ‹_›]
      exact lim_rises (rq_mono to _ (by omega) (Int.mul_le_mul_of_nonneg_right h hc)) h1 h2
    · simp at h2
  · simp at h1
theorem divR_pos (to : Bool) (a b : Int) (hb : 0 < b) : divR to a b = if ck2 a b = 0 then lim (rq to (a * 4294967296) b) else (0, 2) := by
  unfold divR divQ
  have h1 : ¬ b = 0 := by omega
  have h2 : ¬ b < 0 := by omega
  rw [if_neg h1, if_neg h2]
theorem divR_rises (to : Bool) (a b c : Int) (h : a ≤ b) (hc : 0 < c) : Rises (divR to a c) (divR to b c) := by
  intro h1 h2
  rw [divR_pos _ _ _ hc] at *
  rw [divR_pos _ _ _ hc]
  by_cases k1 : ck2 a c = 0
  · by_cases k2 : ck2 b c = 0
    · rw [if_pos k1] at h1 ⊢
      rw [if_pos k2] at h2 ⊢
      exact lim_rises (rq_mono to _ (by omega) (by omega)) h1 h2
    · rw [if_neg k2] at h2; simp at h2
  · rw [if_neg k1] at h1; simp at h1
theorem divR_falls (a b c : Int) (hc : 0 ≤ c) (h : a ≤ b) (ha : 0 < a) : Rises (divR false c b) (divR false c a) := by
  intro h1 h2
  rw [divR_pos _ _ _ (by omega)] at h1 h2
  rw [divR_pos _ _ _ (by omega), divR_pos _ _ _ (by omega)]
  by_cases k1 : ck2 c b = 0
  · by_cases k2 : ck2 c a = 0
    · rw [if_pos k1] at h1 ⊢
      rw [if_pos k2] at h2 ⊢
      refine lim_rises ?_ h1 h2
      unfold rq
      simp only [Bool.false_eq_true, if_false]
      rw [Int.le_ediv_iff_mul_le ha]
      have e1 := Int.ediv_mul_le (c * 4294967296) (show b ≠ 0 by omega)
      have e2 : 0 ≤ c * 4294967296 / b := Int.ediv_nonneg (by omega) (by omega)
      have e3 := Int.mul_le_mul_of_nonneg_left h e2
      omega
    · rw [if_neg k2] at h2; simp at h2
  · rw [if_neg k1] at h1; simp at h1
theorem scaleR_rises (to : Bool) (a b n d : Int) (h : a ≤ b) (hn : 0 ≤ n) : Rises (scaleR to a n d) (scaleR to b n d) := by
  intro h1 h2
  unfold scaleR at *
  split at h1
  · split at h2
    · rw [if_pos ‹_›, if_pos ‹_›]
      exact lim_rises (rq_mono to _ (by omega) (Int.mul_le_mul_of_nonneg_right h hn)) h1 h2
    · simp at h2
  · simp at h1
theorem isqrt_mono (m n : Int) (h0 : 0 ≤ m) (h : m ≤ n) (hn : n < 77371252455336267181195264) : isqrt m ≤ isqrt n := by
  obtain ⟨i0, i1, i2, i3⟩ := isqrt_spec m h0 (by omega)
  obtain ⟨j0, j1, j2, j3⟩ := isqrt_spec n (by omega) hn
  apply Int.le_of_lt_add_one
  apply Int.lt_of_not_ge
  intro k
  have := Int.mul_le_mul k k (by omega) (by omega)
  omega
theorem sqrtR_ok (a : Int) (h0 : 0 ≤ a) (h1 : a ≤ 4503599627370496) : sqrtR false a = (isqrt (a * 4294967296), 0) := by
  unfold sqrtR rootR
  rw [if_pos ⟨ckErr_ok (by omega) h1, h0⟩]
  simp

end Go.Proofs.Ytdaignklmbmcnaa
