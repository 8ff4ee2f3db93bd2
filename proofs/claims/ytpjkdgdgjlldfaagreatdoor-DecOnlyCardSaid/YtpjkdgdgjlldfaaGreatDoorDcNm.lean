/-
  What the texts of decimal numbers look like: plain mathematics.
-/
import Derived.Test.YtpjkdgdgjlldfaaGreatDoorDcB
import Derived.Lib.IndexMore
import Derived.Lib.SlTrimSet
namespace Go.Proofs.YtpjkdgdgjlldfaaGreatDoor
open Go.RowKit

theorem head_txt (n : Int) (d : Nat) : (txt n d).head? = some 45 ↔ n < 0 := by
  unfold txt sgn
  by_cases h : n < 0
  · rw [if_pos h]; simp [h]
  · rw [if_neg h]; simp only [List.nil_append]
    exact ⟨fun k => absurd k (dec_head _ _), fun k => absurd k h⟩
theorem pre_txt (n : Int) (d : Nat) : Lib.hasPrefix (txt n d) [45] = decide (n < 0) := by
  rw [prefix_one]
  by_cases h : n < 0
  · rw [decide_eq_true ((head_txt n d).2 h), decide_eq_true h]
  · rw [decide_eq_false (fun k => h ((head_txt n d).1 k)), decide_eq_false h]
theorem trim_txt (n : Int) (d : Nat) : Lib.trimPrefix (txt n d) [45] = Lib.decDigits (n.natAbs / 10 ^ d) ++ pnt (plc d (n.natAbs % 10 ^ d)) := by
  rw [trim_one]
  by_cases h : n < 0
  · rw [if_pos ((head_txt n d).2 h)]; unfold txt sgn; rw [if_pos h]; rfl
  · rw [if_neg (fun k => h ((head_txt n d).1 k))]; unfold txt sgn; rw [if_neg h]; rfl
theorem index_no : ∀ (l : List UInt8), (∀ b ∈ l, isD b = true) → Lib.index l [46] = -1
  | [], _ => rfl
  | b :: l, h => by
    have hb := h b (by simp)
    have i := index_no l (fun c hc => h c (by simp [hc]))
    have e : ([46] : List UInt8).isPrefixOf (b :: l) = false := by
      simp only [List.isPrefixOf, Bool.and_true]
      by_cases k : (46 : UInt8) = b
      · subst k; exact absurd hb (by decide)
      · simp [k]
    simp [Lib.index, e, i]
theorem index_at : ∀ (l r : List UInt8), (∀ b ∈ l, isD b = true) → Lib.index (l ++ 46 :: r) [46] = l.length
  | [], r, _ => by simp [Lib.index, List.isPrefixOf]
  | b :: l, r, h => by
    have hb := h b (by simp)
    have i := index_at l r (fun c hc => h c (by simp [hc]))
    have e : ([46] : List UInt8).isPrefixOf (b :: (l ++ 46 :: r)) = false := by
      simp only [List.isPrefixOf, Bool.and_true]
      by_cases k : (46 : UInt8) = b
      · subst k; exact absurd hb (by decide)
      · simp [k]
    simp only [List.cons_append, Lib.index, e, i, List.length_cons]
    have hn : ((l.length : Int) == -1) = false := by simp
    simp [hn]
theorem cut_txt (l p : List UInt8) (h : ∀ b ∈ l, isD b = true) : Lib.cut (l ++ pnt p) [46] = (l, p, decide (p ≠ [])) := by
  unfold Lib.cut pnt
  by_cases k : p = []
  · rw [if_pos k, List.append_nil, index_no l h, if_neg (by omega)]; simp [k]
  · rw [if_neg k, index_at l p h, if_pos (by omega)]
    simp [k]
def ten : List UInt8 := [48, 49, 50, 51, 52, 53, 54, 55, 56, 57]
theorem ten_of {b : UInt8} (h : isD b = true) : ten.contains b = true := by
  have e := dig_of h
  unfold isD at h; simp at h
  obtain ⟨k, hk⟩ : ∃ k, b.toNat - 48 = k := ⟨_, rfl⟩
  rw [hk] at e
  obtain h1 | h1 | h1 | h1 | h1 | h1 | h1 | h1 | h1 | h1 : k = 0 ∨ k = 1 ∨ k = 2 ∨ k = 3 ∨ k = 4 ∨ k = 5 ∨ k = 6 ∨ k = 7 ∨ k = 8 ∨ k = 9 := by omega
  all_goals
    subst h1
    rw [← e]; decide
theorem trim_digits (l : List UInt8) (h : ∀ b ∈ l, isD b = true) : Lib.trimS l ten = [] := by
  have a : ∀ k : List UInt8, (∀ b ∈ k, isD b = true) → k.dropWhile (ten.contains ·) = [] := by
    intro k hk
    have := (takeWhile_all (p := (ten.contains ·)) k [] (fun b hb => ten_of (hk b hb)) (by simp)).2
    rwa [List.append_nil] at this
  unfold Lib.trimS Lib.trimRightS
  rw [a l.reverse (fun b hb => h b (by simpa using hb))]
  rfl
theorem atoi_bd (l : List UInt8) (v : Int) (h : Lib.atoiAll l = .ok v) : -9223372036854775808 ≤ v ∧ v ≤ 9223372036854775807 := by
  unfold Lib.atoiAll at h
  split at h
  · cases h
  · simp only [] at h
    split at h
    · cases h
    · cases h
    · split at h
      · cases h
      · split at h
        · cases h
        · simp only [Lib.NumEnd.ok.injEq] at h
          rename_i c1 c2
          split at h
          · rename_i c3; omega
          · rename_i c3; omega
theorem prs_bd (l : List UInt8) (d : Nat) (m : Int) (h : prs l d = (m, 0)) : -9223372036854775808 ≤ m ∧ m ≤ 9223372036854775807 := by
  unfold prs at h
  split at h
  · simp at h
  · split at h
    · simp at h
    · split at h
      · rename_i v hv
        simp only [Prod.mk.injEq] at h
        rw [← h.1]; exact atoi_bd _ v hv
      · simp at h
/-- The whole part begins with no zero, but for 0 itself. -/
theorem dec_zero (u : Nat) : Lib.decDigits u = [48] ∨ (Lib.decDigits u ≠ [48] ∧ (Lib.decDigits u).getD 0 0 ≠ 48) := by
  by_cases h : Lib.decDigits u = [48]
  · exact Or.inl h
  · refine Or.inr ⟨h, fun k => ?_⟩
    have hu : u ≠ 0 := fun e => h (by rw [e, Lib.decDigits_one (by omega)]; rfl)
    apply decDigits_head u hu
    cases hd : Lib.decDigits u with
    | nil => exact absurd hd (decDigits_ne u)
    | cons a r => rw [hd] at k; simp at k ⊢; exact k
end Go.Proofs.YtpjkdgdgjlldfaaGreatDoor
