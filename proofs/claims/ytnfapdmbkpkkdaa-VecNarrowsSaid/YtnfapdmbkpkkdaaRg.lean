/-
  A region that draws its order, by an invariant: each operation once, whatever has come up before it.
-/
import Derived.RegionTactic
namespace Go.Proofs.Ytnfapdmbkpkkdaa
open Go

theorem getD_same {l : Array Bool} {i : Nat} (h : i < l.size) (d : Bool) : (l.setIfInBounds i true).getD i d = true := by
  simp [Array.getD_eq_getD_getElem?, h]
theorem getD_other {l : Array Bool} {i j : Nat} (h : i ≠ j) (d : Bool) : (l.setIfInBounds i true).getD j d = l.getD j d := by
  simp [Array.getD_eq_getD_getElem?, Array.getElem?_setIfInBounds_ne h]
/-- What an operation waits for. -/
def rdeps (md : Region.Mode) (ops : Array Oper) (i : Nat) : List Nat := ((ops[i]?).map fun o => (o.after.toList.filter (fun e => Region.binds md e)).map (·.on)).getD []
theorem ready_spec {md : Region.Mode} {ops : Array Oper} {listed : Array Bool} {i : Nat} (h : i ∈ Region.ready md ops listed) : i < ops.size ∧ listed.getD i true = false ∧ ∀ j ∈ rdeps md ops i, listed.getD j false = true := by
  unfold Region.ready at h
  obtain ⟨h1, h2⟩ := List.mem_filter.1 h
  have hi := List.mem_range.1 h1
  simp only [Bool.and_eq_true, Bool.not_eq_true'] at h2
  refine ⟨hi, h2.1, fun j hj => ?_⟩
  unfold rdeps at hj
  have h3 := h2.2
  rw [Array.getElem?_eq_getElem hi] at hj h3
  simp only [Option.map_some, Option.getD_some, List.mem_map, List.mem_filter] at hj h3
  obtain ⟨e, ⟨he, hb⟩, rfl⟩ := hj
  rw [Array.all_eq_true_iff_forall_mem] at h3
  have := h3 e (Array.mem_toList_iff.1 he)
  simpa [hb] using this
theorem not_ready {md : Region.Mode} {ops : Array Oper} {listed : Array Bool} (h : Region.ready md ops listed = []) {i : Nat} (hi : i < ops.size) (hd : ∀ j ∈ rdeps md ops i, listed.getD j false = true) : listed.getD i true = true := by
  unfold Region.ready at h
  have h1 := List.filter_eq_nil_iff.1 h i (List.mem_range.2 hi)
  simp only [Bool.and_eq_true, Bool.not_eq_true', not_and] at h1
  cases hl : listed.getD i true
  · exfalso
    refine h1 hl ?_
    rw [Array.getElem?_eq_getElem hi]
    simp only [Option.map_some, Option.getD_some]
    rw [Array.all_eq_true_iff_forall_mem]
    intro e he
    cases hb : Region.binds md e
    · simp
    · simp only [Bool.not_true, Bool.false_or]
      refine hd _ ?_
      unfold rdeps
      rw [Array.getElem?_eq_getElem hi]
      simp only [Option.map_some, Option.getD_some, List.mem_map, List.mem_filter]
      exact ⟨e, ⟨Array.mem_toList_iff.2 he, hb⟩, rfl⟩
  · rfl
/-- Every operation waits for earlier ones only. -/
def depsBelow (md : Region.Mode) (ops : Array Oper) : Bool := (List.range ops.size).all fun i => (rdeps md ops i).all fun j => decide (j < i)
theorem all_listed {md : Region.Mode} {ops : Array Oper} {listed : Array Bool} (hn : listed.size = ops.size) (hd : depsBelow md ops = true) (h : Region.ready md ops listed = []) : ∀ i, i < ops.size → listed.getD i false = true := by
  intro i
  induction i using Nat.strongRecOn with
  | ind i ih =>
    intro hi
    have h1 := not_ready h hi fun j hj => by
      unfold depsBelow at hd
      have h2 := List.all_eq_true.1 hd i (List.mem_range.2 hi)
      have h3 := List.all_eq_true.1 h2 j hj
      have h4 : j < i := by simpa using h3
      exact ih j h4 (by omega)
    rw [Array.getD_eq_getD_getElem?, Array.getElem?_eq_getElem (by omega)] at *
    simpa using h1
def cntF (l : Array Bool) : Nat := l.toList.countP not
theorem cntF_set {l : Array Bool} {i : Nat} (hi : i < l.size) (h : l.getD i true = false) : cntF (l.setIfInBounds i true) + 1 = cntF l := by
  unfold cntF
  rw [Array.getD_eq_getD_getElem?, Array.getElem?_eq_getElem hi] at h
  have h' : l[i] = false := by simpa using h
  have hp : 0 < l.toList.countP not := List.countP_pos_iff.2 ⟨l[i], Array.mem_toList_iff.2 (Array.getElem_mem hi), by simp [h']⟩
  have e : l.toList[i]'(by simpa using hi) = false := by simpa using h'
  rw [Array.toList_setIfInBounds, List.countP_set (by simpa using hi), e, if_pos (by rfl), if_neg (by simp)]
  omega
theorem wpAny_inv {P : Program} {md : Region.Mode} {ops : Array Oper} {Q : Exit → Act → World → Prop} (hd : depsBelow md ops = true) (I : Array Bool → Act → World → Prop)
    (hs : ∀ listed a w i, listed.size = ops.size → I listed a w → i < ops.size → listed.getD i false = false → (∀ j ∈ rdeps md ops i, listed.getD j false = true) → wpOp P ops Q i (fun a' w' => I (listed.setIfInBounds i true) a' w') a w)
    (he : ∀ listed a w, I listed a w → (∀ i, i < ops.size → listed.getD i false = true) → Q .normal a w) :
    ∀ fuel listed a w, listed.size = ops.size → cntF listed ≤ fuel → I listed a w → wpAny P md ops Q fuel listed a w := by
  intro fuel
  induction fuel with
  | zero =>
    intro listed a w hn hc h
    have hr : Region.ready md ops listed = [] := by
      refine List.filter_eq_nil_iff.2 fun i hi => ?_
      have hi' := List.mem_range.1 hi
      have h0 : ∀ b ∈ listed.toList, ¬ (not b = true) := fun b hb hb2 => by
        have := List.countP_pos_iff.2 ⟨b, hb, hb2⟩
        unfold cntF at hc; omega
      have h1 := h0 _ (Array.mem_toList_iff.2 (Array.getElem_mem (show i < listed.size by omega)))
      rw [Array.getD_eq_getD_getElem?, Array.getElem?_eq_getElem (by omega)]
      simp at h1
      simp [h1]
    exact ⟨hr, he _ _ _ h (all_listed hn hd hr)⟩
  | succ fuel ih =>
    intro listed a w hn hc h
    refine ⟨fun hr => he _ _ _ h (all_listed hn hd hr), fun i hi => ?_⟩
    obtain ⟨h1, h2, h3⟩ := ready_spec hi
    have := cntF_set (l := listed) (i := i) (by omega) h2
    exact wpOp_mono (fun a' w' h' => ih _ a' w' (by simpa using hn) (by omega) h') (hs _ _ _ i hn h h1 (by rw [Array.getD_eq_getD_getElem?, Array.getElem?_eq_getElem (by omega)] at *; simpa using h2) h3)
/-- The rule: I holds at the start (of the region's own frame and world), each operation keeps it, and at the end it gives what is wanted. -/
theorem wp_region_inv {P : Program} {ops : Array Oper} {Q : Exit → Act → World → Prop} {id : Nat} {a : Act} {w : World} (hm : P.follows .mixedOrders = true) (hd : depsBelow .any ops = true) (I : Act → Array Bool → Act → World → Prop)
    (h0 : I a (Array.replicate ops.size false) a w.drew)
    (hs : ∀ listed a' w' i, listed.size = ops.size → I a listed a' w' → i < ops.size → listed.getD i false = false → (∀ j ∈ rdeps .any ops i, listed.getD j false = true) → wpOp P ops Q i (fun a'' w'' => I a (listed.setIfInBounds i true) a'' w'') a' w')
    (he : ∀ listed a' w', I a listed a' w' → (∀ i, i < ops.size → listed.getD i false = true) → Q .normal a' w') : (Code.region id ops true).wp P Q a w := by
  refine wp_region_any hm ?_
  refine wpAny_inv hd (I a) hs he _ _ _ _ (by simp) ?_ h0
  unfold cntF
  exact Nat.le_trans List.countP_le_length (by simp)
theorem put_self {a : Act} {t : Nat} (h : t < a.tmps.size) : a.put (some t) (a.tmps.getD t undef) = a := by
  cases a with
  | mk tmps defers =>
    simp only [Act.put]
    congr 1
    apply Array.ext
    · simp
    · intro i h1 h2
      simp only [Array.getD_eq_getD_getElem?]
      rw [Array.getElem_setIfInBounds]
      split
      · rename_i e; subst e; simp [h2]
      · rfl
theorem put_ex {a b : Act} {t : Nat} (h : a = b) (ht : t < a.tmps.size) : a = b.put (some t) (b.tmps.getD t undef) := by
  subst h; rw [put_self ht]
end Go.Proofs.Ytnfapdmbkpkkdaa
