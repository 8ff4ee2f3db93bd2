/-
  Mathematics of PolyBegins: the value and the slope for 0; one more coefficient 0 at the end.
-/
import Derived.Test.YtdaignklmbmcnaaPyF
namespace Go.Proofs.Ytdaignklmbmcnaa

theorem mul_zero2 {a b : Int} (k : ckS a b = 0) : sMulR a b 0 0 = (0, 0, 0) := by
  have v := valS k
  have h : ∀ p : Int, -4503599627370496 ≤ p → p ≤ 4503599627370496 → atR (mulR false p 0) (mulR true p 0) = (0, 0, 0) := fun p p0 p1 => by
    rw [mulR_in false p0 p1 (by omega) (by omega), mulR_in true p0 p1 (by omega) (by omega), Int.mul_zero]
    decide
  unfold sMulR
  rw [if_pos (val2 k (by decide))]
  simp only [four, h a (by omega) (by omega), h b (by omega) (by omega)]
  decide
theorem zero_mul2 {a b : Int} (k : ckS a b = 0) : sMulR 0 0 a b = (0, 0, 0) := by
  rw [mul_comm2 a b 0 0 k (by decide)]; exact mul_zero2 k
theorem zero_add2 {a b : Int} (k : ckS a b = 0) : sAddR 0 0 a b = (a, b, 0) := by
  have v := valS k
  unfold sAddR
  rw [if_pos (val2 (by decide) k), Int.zero_add, Int.zero_add]
  exact limS_ok (by omega) (by omega) (by omega)
theorem pvl_zero : ∀ {l : List (Int × Int)}, Ok l → pvl 0 0 l = ((pf l 0).1, (pf l 0).2, 0)
  | [], _ => rfl
  | c :: l, h => by
    by_cases e : l = []
    · subst e; rw [pvl_one]; rfl
    · have ih := pvl_zero h.tail
      have kv := pvl_val (x := 0) (y := 0) (by decide) h.tail
      rw [pvl_cons _ _ _ e]
      rw [ih] at kv ⊢
      unfold hst
      simp only [if_true, mul_zero2 kv]
      exact zero_add2 h.head
theorem begins_eval {l : List (Int × Int)} (h : Ok l) (hl : l.length ≤ 8) : evR l 0 0 = ((pf l 0).1, (pf l 0).2, 0) := by
  unfold evR
  rw [ckL_ok _ _ hl h, if_pos (by decide)]
  exact pvl_zero h
theorem scV_small : ∀ (k : Nat) (l : List (Int × Int)), k + l.length ≤ 100 → k ≤ 10 → k + l.length ≤ 10 → (∀ c ∈ l, Sml c) → scE k l = 0 ∧ Ok (scV k l)
  | _, [], _, _, _, _ => ⟨rfl, fun c hc => by cases hc⟩
  | k, c :: l, h1, h2, h3, hs => by
    simp only [List.length_cons] at h1 h3
    have hc := hs c List.mem_cons_self
    obtain ⟨c0, c1, c2⟩ := hc
    have m0 : -4503599627370496 ≤ c.1 * k := by
      have : (-68719476736 : Int) * k ≤ c.1 * k := Int.mul_le_mul_of_nonneg_right c0 (by omega)
      omega
    have m1 : c.2 * k ≤ 4503599627370496 := by
      have : c.2 * (k : Int) ≤ 73014444031 * k := Int.mul_le_mul_of_nonneg_right c2 (by omega)
      omega
    have m2 : c.1 * k ≤ c.2 * k := Int.mul_le_mul_of_nonneg_right c1 (by omega)
    have k9 : k ≤ 100 := by omega
    have e := scale_mk (k := k) (Sml.ck (c := c) ⟨c0, c1, c2⟩) k9 m0 m1
    obtain ⟨r1, r2⟩ := scV_small (k + 1) l (by omega) (by omega) (by omega) fun d hd => hs d (List.mem_cons_of_mem _ hd)
    refine ⟨?_, ?_⟩
    · unfold scE; rw [e, if_pos rfl]; exact r1
    · unfold scV; rw [e]
      intro d hd
      rcases List.mem_cons.1 hd with rfl | hd
      · exact ckS_ok m0 m2 m1
      · exact r2 d hd
theorem begins_slope {l : List (Int × Int)} (hs : ∀ c ∈ l, Sml c) (hl : l.length ≤ 8) : slR l 0 0 = ((pf l 1).1, (pf l 1).2, 0) := by
  have h : Ok l := fun c hc => (hs c hc).ck
  obtain ⟨r1, r2⟩ := scV_small 1 (l.drop 1) (by simp; omega) (by omega) (by simp; omega) fun c hc => hs c (List.mem_of_mem_drop hc)
  unfold slR
  rw [ckL_ok _ _ hl h, if_pos (by decide), if_pos r1, pvl_zero r2]
  have e : pf (scV 1 (l.drop 1)) 0 = pf l 1 := by
    match l, hs with
    | [], _ => rfl
    | [c], _ => rfl
    | c :: d :: l, hs =>
      have z := scE_zero r1 0 (by simp)
      have hd := (hs d (by simp)).ck
      have z' : (sScaleR d.1 d.2 ((1 : Nat) : Int) 1).2.2 = 0 := by simpa [pf] using z
      have e := (scale_ok (k := 1) hd (by omega) z').1
      show pf (((sScaleR d.1 d.2 ((1 : Nat) : Int) 1).1, (sScaleR d.1 d.2 ((1 : Nat) : Int) 1).2.1) :: scV 2 l) 0 = d
      rw [e]
      simp [pf]
  rw [e]
theorem pvl_more {x y : Int} (k : ckS x y = 0) : ∀ {l : List (Int × Int)}, Ok l → pvl x y (l ++ [(0, 0)]) = pvl x y l
  | [], _ => by simp [pvl]
  | c :: l, h => by
    rw [List.cons_append, pvl_cons _ _ _ (by simp)]
    by_cases e : l = []
    · subst e
      rw [List.nil_append, pvl_one, pvl_one]
      unfold hst
      simp only [if_true, zero_mul2 k]
      exact zero_add2 h.head
    · rw [pvl_more k h.tail, pvl_cons _ _ _ e]
theorem begins_more {l : List (Int × Int)} {x y : Int} (h : Ok l) (hl : l.length ≤ 7) (k : ckS x y = 0) : evR (l ++ [(0, 0)]) x y = evR l x y := by
  have h' : Ok (l ++ [(0, 0)]) := fun c hc => by
    rcases List.mem_append.1 hc with hc | hc
    · exact h c hc
    · rw [List.mem_singleton.1 hc]; decide
  unfold evR
  rw [ckL_ok _ _ (by simp; omega) h', ckL_ok _ _ (by omega) h, if_pos k, if_pos k, pvl_more k h]
end Go.Proofs.Ytdaignklmbmcnaa
