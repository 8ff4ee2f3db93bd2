/-
  LongRing: the walk.
-/
import Derived.Test.YtoppdbgodceaiaaDoorLiM
import Derived.RegionTactic
import Derived.Deep.Cut
namespace Go.Proofs.YtoppdbgodceaiaaDoor
open Go.RowKit

theorem getD_same {l : Array Bool} {i : Nat} (h : i < l.size) (d : Bool) : (l.setIfInBounds i true).getD i d = true := by
  simp [Array.getD_eq_getD_getElem?, h]
theorem getD_other {l : Array Bool} {i j : Nat} (h : i ≠ j) (d : Bool) : (l.setIfInBounds i true).getD j d = l.getD j d := by
  simp [Array.getD_eq_getD_getElem?, Array.getElem?_setIfInBounds_ne h]
/-- What an operation waits for. -/
def rdeps (md : Region.Mode) (ops : Array Oper) (i : Nat) : List Nat := ((ops[i]?).map fun o => (o.after.toList.filter (fun e => Region.binds md e)).map (·.on)).getD []
theorem ready_spec {md : Region.Mode} {ops : Array Oper} {listed : Array Bool} {i : Nat} (h : i ∈ Region.ready md ops listed) : i < ops.size ∧ listed.getD i true = false ∧ ∀ j ∈ rdeps md ops i, listed.getD j false = true := by
  unfold Region.ready at h
  obtain ⟨h1, h2⟩ := List.mem_filter.1 h
  have hi := List.mem_range.1 h1
  simp only [Bool.and_eq_true, Bool.not_eq_true'] at h2
  refine ⟨hi, h2.1, fun j hj => ?_⟩
  unfold rdeps at hj
  have h3 := h2.2
  rw [Array.getElem?_eq_getElem hi] at hj h3
  simp only [Option.map_some, Option.getD_some, List.mem_map, List.mem_filter] at hj h3
  obtain ⟨e, ⟨he, hb⟩, rfl⟩ := hj
  rw [Array.all_eq_true_iff_forall_mem] at h3
  have := h3 e (Array.mem_toList_iff.1 he)
  simpa [hb] using this
theorem not_ready {md : Region.Mode} {ops : Array Oper} {listed : Array Bool} (h : Region.ready md ops listed = []) {i : Nat} (hi : i < ops.size) (hd : ∀ j ∈ rdeps md ops i, listed.getD j false = true) : listed.getD i true = true := by
  unfold Region.ready at h
  have h1 := List.filter_eq_nil_iff.1 h i (List.mem_range.2 hi)
  simp only [Bool.and_eq_true, Bool.not_eq_true', not_and] at h1
  cases hl : listed.getD i true
  · exfalso
    refine h1 hl ?_
    rw [Array.getElem?_eq_getElem hi]
    simp only [Option.map_some, Option.getD_some]
    rw [Array.all_eq_true_iff_forall_mem]
    intro e he
    cases hb : Region.binds md e
    · simp
    · simp only [Bool.not_true, Bool.false_or]
      refine hd _ ?_
      unfold rdeps
      rw [Array.getElem?_eq_getElem hi]
      simp only [Option.map_some, Option.getD_some, List.mem_map, List.mem_filter]
      exact ⟨e, ⟨Array.mem_toList_iff.2 he, hb⟩, rfl⟩
  · rfl
/-- Every operation waits for earlier ones only. -/
def depsBelow (md : Region.Mode) (ops : Array Oper) : Bool := (List.range ops.size).all fun i => (rdeps md ops i).all fun j => decide (j < i)
theorem all_listed {md : Region.Mode} {ops : Array Oper} {listed : Array Bool} (hn : listed.size = ops.size) (hd : depsBelow md ops = true) (h : Region.ready md ops listed = []) : ∀ i, i < ops.size → listed.getD i false = true := by
  intro i
  induction i using Nat.strongRecOn with
  | ind i ih =>
    intro hi
    have h1 := not_ready h hi fun j hj => by
      unfold depsBelow at hd
      have h2 := List.all_eq_true.1 hd i (List.mem_range.2 hi)
      have h3 := List.all_eq_true.1 h2 j hj
      have h4 : j < i := by simpa using h3
      exact ih j h4 (by omega)
    rw [Array.getD_eq_getD_getElem?, Array.getElem?_eq_getElem (by omega)] at *
    simpa using h1
def cntF (l : Array Bool) : Nat := l.toList.countP not
theorem cntF_set {l : Array Bool} {i : Nat} (hi : i < l.size) (h : l.getD i true = false) : cntF (l.setIfInBounds i true) + 1 = cntF l := by
  unfold cntF
  rw [Array.getD_eq_getD_getElem?, Array.getElem?_eq_getElem hi] at h
  have h' : l[i] = false := by simpa using h
  have hp : 0 < l.toList.countP not := List.countP_pos_iff.2 ⟨l[i], Array.mem_toList_iff.2 (Array.getElem_mem hi), by simp [h']⟩
  have e : l.toList[i]'(by simpa using hi) = false := by simpa using h'
  rw [Array.toList_setIfInBounds, List.countP_set (by simpa using hi), e, if_pos (by rfl), if_neg (by simp)]
  omega
theorem wpAny_inv {P : Program} {md : Region.Mode} {ops : Array Oper} {Q : Exit → Act → World → Prop} (hd : depsBelow md ops = true) (I : Array Bool → Act → World → Prop)
    (hs : ∀ listed a w i, listed.size = ops.size → I listed a w → i < ops.size → listed.getD i false = false → (∀ j ∈ rdeps md ops i, listed.getD j false = true) → wpOp P ops Q i (fun a' w' => I (listed.setIfInBounds i true) a' w') a w)
    (he : ∀ listed a w, I listed a w → (∀ i, i < ops.size → listed.getD i false = true) → Q .normal a w) :
    ∀ fuel listed a w, listed.size = ops.size → cntF listed ≤ fuel → I listed a w → wpAny P md ops Q fuel listed a w := by
  intro fuel
  induction fuel with
  | zero =>
    intro listed a w hn hc h
    have hr : Region.ready md ops listed = [] := by
      refine List.filter_eq_nil_iff.2 fun i hi => ?_
      have hi' := List.mem_range.1 hi
      have h0 : ∀ b ∈ listed.toList, ¬ (not b = true) := fun b hb hb2 => by
        have := List.countP_pos_iff.2 ⟨b, hb, hb2⟩
        unfold cntF at hc; omega
      have h1 := h0 _ (Array.mem_toList_iff.2 (Array.getElem_mem (show i < listed.size by omega)))
      rw [Array.getD_eq_getD_getElem?, Array.getElem?_eq_getElem (by omega)]
      simp at h1
      simp [h1]
    exact ⟨hr, he _ _ _ h (all_listed hn hd hr)⟩
  | succ fuel ih =>
    intro listed a w hn hc h
    refine ⟨fun hr => he _ _ _ h (all_listed hn hd hr), fun i hi => ?_⟩
    obtain ⟨h1, h2, h3⟩ := ready_spec hi
    have := cntF_set (l := listed) (i := i) (by omega) h2
    exact wpOp_mono (fun a' w' h' => ih _ a' w' (by simpa using hn) (by omega) h') (hs _ _ _ i hn h h1 (by rw [Array.getD_eq_getD_getElem?, Array.getElem?_eq_getElem (by omega)] at *; simpa using h2) h3)
/-- The rule: I holds at the start (of the region's own frame and world), each operation keeps it, and at the end it gives what is wanted. -/
theorem wp_region_inv {P : Program} {ops : Array Oper} {Q : Exit → Act → World → Prop} {id : Nat} {a : Act} {w : World} (hm : P.follows .mixedOrders = true) (hd : depsBelow .any ops = true) (I : Act → Array Bool → Act → World → Prop)
    (h0 : I a (Array.replicate ops.size false) a w.drew)
    (hs : ∀ listed a' w' i, listed.size = ops.size → I a listed a' w' → i < ops.size → listed.getD i false = false → (∀ j ∈ rdeps .any ops i, listed.getD j false = true) → wpOp P ops Q i (fun a'' w'' => I a (listed.setIfInBounds i true) a'' w'') a' w')
    (he : ∀ listed a' w', I a listed a' w' → (∀ i, i < ops.size → listed.getD i false = true) → Q .normal a' w') : (Code.region id ops true).wp P Q a w := by
  refine wp_region_any hm ?_
  refine wpAny_inv hd (I a) hs he _ _ _ _ (by simp) ?_ h0
  unfold cntF
  exact Nat.le_trans List.countP_le_length (by simp)
theorem put_self {a : Act} {t : Nat} (h : t < a.tmps.size) : a.put (some t) (a.tmps.getD t undef) = a := by
  cases a with
  | mk tmps defers =>
    simp only [Act.put]
    congr 1
    apply Array.ext
    · simp
    · intro i h1 h2
      simp only [Array.getD_eq_getD_getElem?]
      rw [Array.getElem_setIfInBounds]
      split
      · rename_i e; subst e; simp [h2]
      · rfl
theorem put_ex {a b : Act} {t : Nat} (h : a = b) (ht : t < a.tmps.size) : a = b.put (some t) (b.tmps.getD t undef) := by
  subst h; rw [put_self ht]

theorem sz_alloc (w : World) (o : Obj) : (w.alloc o).heap.size = w.heap.size + 1 := by simp
theorem Bx.drewI {w : World} {g : Nat} {x y : Value} {t : TypeId} (h : Bx w g x y t) : Bx w.drew g x y t := h
theorem Bx.new1 (w : World) (o : Obj) (x y : Value) (t : TypeId) : Bx ((w.alloc o).alloc (.cells #[x, y] t)) (w.heap.size + 1) x y t := by
  have h := Bx.new (w.alloc o) x y t
  rwa [sz_alloc] at h
theorem Bx.new2 (w : World) (o o' : Obj) (x y : Value) (t : TypeId) : Bx (((w.alloc o).alloc o').alloc (.cells #[x, y] t)) (w.heap.size + 1 + 1) x y t := by
  have h := Bx.new ((w.alloc o).alloc o') x y t
  rwa [sz_alloc, sz_alloc] at h
theorem Lg.allocI {w : World} {V : Value} {z : Int} (h : Lg w V z) (o : Obj) : Lg (w.alloc o) V z := h.keep ((Below.refl _ _).alloc (Nat.le_refl _) _)
theorem Lg.drewI {w : World} {V : Value} {z : Int} (h : Lg w V z) : Lg w.drew V z := h
/-- A box, where it has been laid; and what lies in it, where that has been stored. -/
def BxI (B : Nat) (l st : Bool) (w : World) (y v : Value) : Prop := l = true → ∃ (g : Nat) (b : Bool) (e : Option Addr) (n k : Nat), y = .pointer (some ⟨g, 0, none⟩) ∧ B ≤ g ∧ Bx w g (.bool b) (.slice e n k) 24 ∧ (st = true → v = .agg #[.bool b, .slice e n k])
theorem BxI.val {B : Nat} {l : Bool} {w : World} {y v v' : Value} (h : BxI B l false w y v) : BxI B l false w y v' := fun hl => by
  obtain ⟨g, b, e, n, k, h1, h2, h3, _⟩ := h hl
  exact ⟨g, b, e, n, k, h1, h2, h3, fun h => by cases h⟩
theorem BxI.keep {B : Nat} {l st : Bool} {w w' : World} {y v : Value} (h : BxI B l st w y v) (hb : Below w.heap.size w w') : BxI B l st w' y v := fun hl => by
  obtain ⟨g, b, e, n, k, h1, h2, h3, h4⟩ := h hl
  exact ⟨g, b, e, n, k, h1, h2, h3.keep hb, h4⟩
theorem BxI.alloc {B : Nat} {l st : Bool} {w : World} {y v : Value} (h : BxI B l st w y v) (o : Obj) : BxI B l st (w.alloc o) y v := h.keep ((Below.refl _ _).alloc (Nat.le_refl _) _)
theorem BxI.ne {B : Nat} {l st : Bool} {w : World} {y v : Value} (h : BxI B l st w y v) (hl : l = true) : y ≠ .pointer (some ⟨w.heap.size, 0, none⟩) := by
  obtain ⟨g, b, e, n, k, h1, h2, h3, h4⟩ := h hl
  have := h3.lt
  rw [h1]
  intro e
  simp at e
  all_goals omega
theorem BxI.far {B : Nat} {l st : Bool} {w : World} {y v : Value} (h : BxI B l st w y v) {g : Nat} (hn : l = true → y ≠ .pointer (some ⟨g, 0, none⟩)) (u u' : Value) : BxI B l st ((w.setCell ⟨g, 0, none⟩ u).setCell ⟨g, 1, none⟩ u') y v := fun hl => by
  obtain ⟨g', b, e, n, k, h1, h2, h3, h4⟩ := h hl
  refine ⟨g', b, e, n, k, h1, h2, h3.farP (fun e => hn hl (by rw [h1, e])) _ _, h4⟩
theorem cell2 {w w' : World} {p : Addr} {v : Value} (h : w.cell? p = some v) (hb : Below w.heap.size w w') : w'.cell? p = some v := lkeep hb h

theorem mul_okE (A B : Value) (x y z : Int) (w : World) (hA : Lg w A x) (hB : Lg w B y) (l1 : Dl x ≤ 600) (l2 : Dl y ≤ 600) (e : x * y = z) (l3 : Dl z ≤ 600) :
    Calls Tryd.prog 36 #[A, B] w fun e w' => OkL z e w' ∧ Below w.heap.size w w' := by
  subst e; exact mul_ok A B x y w hA hB l1 l2 l3
theorem sub_okE (A B : Value) (x y z : Int) (w : World) (hA : Lg w A x) (hB : Lg w B y) (l1 : Dl x ≤ 600) (l2 : Dl y ≤ 600) (e : x - y = z) (l3 : Dl z ≤ 600) :
    Calls Tryd.prog 31 #[A, B] w fun e w' => OkL z e w' ∧ Below w.heap.size w w' := by
  subst e; exact sub_ok A B x y w hA hB l1 l2 l3

set_option maxRecDepth 100000 in
set_option maxHeartbeats 16000000 in
theorem longRing_true (b1 : Bool) (s1 : Value) (l1 : List Int) (b2 : Bool) (s2 : Value) (l2 : List Int) (b3 : Bool) (k3 : Int) (s3 : Value) (m3 : List Int) (b4 : Bool) (k4 : Int) (s4 : Value) (m4 : List Int) (b5 : Bool) (k5 : Int) (s5 : Value) (m5 : List Int) (w : World) (hP : Pw w) (L1 : Ls w s1 l1) (L2 : Ls w s2 l2) (N1 : l1.length ≤ 9223372036854775807) (N2 : l2.length ≤ 9223372036854775807) (K30 : 0 ≤ k3) (K31 : k3 ≤ 255) (W3 : Wd w s3 m3) (K40 : 0 ≤ k4) (K41 : k4 ≤ 255) (W4 : Wd w s4 m4) (K50 : 0 ≤ k5) (K51 : k5 ≤ 255) (W5 : Wd w s5 m5) :
    Calls Tryd.prog 10 #[.agg #[.bool b1, s1, .bool b2, s2, .bool b3, .int .u8 k3, s3, .bool b4, .int .u8 k4, s4], .agg #[.bool b5, .int .u8 k5, s5]] w fun e w' => e = .returned (.bool true) ∧ Below w.heap.size w w' := by
  have hz := drShort_Dl (b := b5) (k := k5) (m := m5) (fun x hx => (W5.choose_spec.choose_spec.2.2.1 x hx).1)
  have L1' := L1
  have L2' := L2
  have W3' := W3
  have W4' := W4
  have W5' := W5
  obtain ⟨q1, r1, rfl, _⟩ := L1'
  obtain ⟨q2, r2, rfl, _⟩ := L2'
  obtain ⟨q3, r3, rfl, _⟩ := W3'
  obtain ⟨q4, r4, rfl, _⟩ := W4'
  obtain ⟨q5, r5, rfl, _⟩ := W5'
  have hB : Below w.heap.size w ((w.alloc (.cells #[.bool b1, .slice q1 l1.length r1, .bool b2, .slice q2 l2.length r2, .bool b3, .int .u8 k3, .slice q3 m3.length r3, .bool b4, .int .u8 k4, .slice q4 m4.length r4] 29)).alloc (.cells #[.bool b5, .int .u8 k5, .slice q5 m5.length r5] 27)) := by (repeat (first | with_reducible exact Below.refl _ _ | with_reducible assumption | refine Below.alloc ?_ (by (try simp); try omega) _ | refine Below.setCell ?_ (by (try simp); try omega) _ | refine below_drewN ?_ _ | refine Below.drew ?_ | (with_reducible refine Below.trans ?_ (Below.mono (by assumption) (by (try simp); try omega)))))
  have c0 : ((w.alloc (.cells #[.bool b1, .slice q1 l1.length r1, .bool b2, .slice q2 l2.length r2, .bool b3, .int .u8 k3, .slice q3 m3.length r3, .bool b4, .int .u8 k4, .slice q4 m4.length r4] 29)).alloc (.cells #[.bool b5, .int .u8 k5, .slice q5 m5.length r5] 27)).cell? ⟨w.heap.size, 0, none⟩ = some (.bool b1) := by simp
  have c1 : ((w.alloc (.cells #[.bool b1, .slice q1 l1.length r1, .bool b2, .slice q2 l2.length r2, .bool b3, .int .u8 k3, .slice q3 m3.length r3, .bool b4, .int .u8 k4, .slice q4 m4.length r4] 29)).alloc (.cells #[.bool b5, .int .u8 k5, .slice q5 m5.length r5] 27)).cell? ⟨w.heap.size, 1, none⟩ = some (.slice q1 l1.length r1) := by simp
  have c2 : ((w.alloc (.cells #[.bool b1, .slice q1 l1.length r1, .bool b2, .slice q2 l2.length r2, .bool b3, .int .u8 k3, .slice q3 m3.length r3, .bool b4, .int .u8 k4, .slice q4 m4.length r4] 29)).alloc (.cells #[.bool b5, .int .u8 k5, .slice q5 m5.length r5] 27)).cell? ⟨w.heap.size, 2, none⟩ = some (.bool b2) := by simp
  have c3 : ((w.alloc (.cells #[.bool b1, .slice q1 l1.length r1, .bool b2, .slice q2 l2.length r2, .bool b3, .int .u8 k3, .slice q3 m3.length r3, .bool b4, .int .u8 k4, .slice q4 m4.length r4] 29)).alloc (.cells #[.bool b5, .int .u8 k5, .slice q5 m5.length r5] 27)).cell? ⟨w.heap.size, 3, none⟩ = some (.slice q2 l2.length r2) := by simp
  have c4 : ((w.alloc (.cells #[.bool b1, .slice q1 l1.length r1, .bool b2, .slice q2 l2.length r2, .bool b3, .int .u8 k3, .slice q3 m3.length r3, .bool b4, .int .u8 k4, .slice q4 m4.length r4] 29)).alloc (.cells #[.bool b5, .int .u8 k5, .slice q5 m5.length r5] 27)).cell? ⟨w.heap.size, 4, none⟩ = some (.bool b3) := by simp
  have c5 : ((w.alloc (.cells #[.bool b1, .slice q1 l1.length r1, .bool b2, .slice q2 l2.length r2, .bool b3, .int .u8 k3, .slice q3 m3.length r3, .bool b4, .int .u8 k4, .slice q4 m4.length r4] 29)).alloc (.cells #[.bool b5, .int .u8 k5, .slice q5 m5.length r5] 27)).cell? ⟨w.heap.size, 5, none⟩ = some (.int .u8 k3) := by simp
  have c6 : ((w.alloc (.cells #[.bool b1, .slice q1 l1.length r1, .bool b2, .slice q2 l2.length r2, .bool b3, .int .u8 k3, .slice q3 m3.length r3, .bool b4, .int .u8 k4, .slice q4 m4.length r4] 29)).alloc (.cells #[.bool b5, .int .u8 k5, .slice q5 m5.length r5] 27)).cell? ⟨w.heap.size, 6, none⟩ = some (.slice q3 m3.length r3) := by simp
  have c7 : ((w.alloc (.cells #[.bool b1, .slice q1 l1.length r1, .bool b2, .slice q2 l2.length r2, .bool b3, .int .u8 k3, .slice q3 m3.length r3, .bool b4, .int .u8 k4, .slice q4 m4.length r4] 29)).alloc (.cells #[.bool b5, .int .u8 k5, .slice q5 m5.length r5] 27)).cell? ⟨w.heap.size, 7, none⟩ = some (.bool b4) := by simp
  have c8 : ((w.alloc (.cells #[.bool b1, .slice q1 l1.length r1, .bool b2, .slice q2 l2.length r2, .bool b3, .int .u8 k3, .slice q3 m3.length r3, .bool b4, .int .u8 k4, .slice q4 m4.length r4] 29)).alloc (.cells #[.bool b5, .int .u8 k5, .slice q5 m5.length r5] 27)).cell? ⟨w.heap.size, 8, none⟩ = some (.int .u8 k4) := by simp
  have c9 : ((w.alloc (.cells #[.bool b1, .slice q1 l1.length r1, .bool b2, .slice q2 l2.length r2, .bool b3, .int .u8 k3, .slice q3 m3.length r3, .bool b4, .int .u8 k4, .slice q4 m4.length r4] 29)).alloc (.cells #[.bool b5, .int .u8 k5, .slice q5 m5.length r5] 27)).cell? ⟨w.heap.size, 9, none⟩ = some (.slice q4 m4.length r4) := by simp
  have e0 : ((w.alloc (.cells #[.bool b1, .slice q1 l1.length r1, .bool b2, .slice q2 l2.length r2, .bool b3, .int .u8 k3, .slice q3 m3.length r3, .bool b4, .int .u8 k4, .slice q4 m4.length r4] 29)).alloc (.cells #[.bool b5, .int .u8 k5, .slice q5 m5.length r5] 27)).cell? ⟨w.heap.size + 1, 0, none⟩ = some (.bool b5) := by simp
  have e1 : ((w.alloc (.cells #[.bool b1, .slice q1 l1.length r1, .bool b2, .slice q2 l2.length r2, .bool b3, .int .u8 k3, .slice q3 m3.length r3, .bool b4, .int .u8 k4, .slice q4 m4.length r4] 29)).alloc (.cells #[.bool b5, .int .u8 k5, .slice q5 m5.length r5] 27)).cell? ⟨w.heap.size + 1, 1, none⟩ = some (.int .u8 k5) := by simp
  have e2 : ((w.alloc (.cells #[.bool b1, .slice q1 l1.length r1, .bool b2, .slice q2 l2.length r2, .bool b3, .int .u8 k3, .slice q3 m3.length r3, .bool b4, .int .u8 k4, .slice q4 m4.length r4] 29)).alloc (.cells #[.bool b5, .int .u8 k5, .slice q5 m5.length r5] 27)).cell? ⟨w.heap.size + 1, 2, none⟩ = some (.slice q5 m5.length r5) := by simp
  go_enter Tryd.func10, Tryd.ntmps10
  go_wp2_with fail
  generalize ((w.alloc (.cells #[.bool b1, .slice q1 l1.length r1, .bool b2, .slice q2 l2.length r2, .bool b3, .int .u8 k3, .slice q3 m3.length r3, .bool b4, .int .u8 k4, .slice q4 m4.length r4] 29)).alloc (.cells #[.bool b5, .int .u8 k5, .slice q5 m5.length r5] 27)) = w1 at *
  obtain ⟨g, hg⟩ : ∃ g, w.heap.size = g := ⟨_, rfl⟩
  simp only [hg] at c0 c1 c2 c3 c4 c5 c6 c7 c8 c9 e0 e1 e2 ⊢
  rw [← hg]
  obtain ⟨z, hzE⟩ : ∃ z, drShortZ b5 k5 m5 = z := ⟨_, rfl⟩
  rw [hzE] at hz
  have hSh := fun w h => drShort_any b5 k5 (.slice q5 m5.length r5) m5 w K50 K51 h
  rw [hzE] at hSh
  clear hzE
  replace hSh := Lib.hid hSh
  go_at_call 16
  refine (works_true _ (hP.keep hB)).mono ?_
  rintro e u1 ⟨rfl, hb⟩
  have hk : Below w1.heap.size w1 u1 := by (repeat (first | with_reducible exact Below.refl _ _ | with_reducible assumption | refine Below.alloc ?_ (by (try simp); try omega) _ | refine Below.setCell ?_ (by (try simp); try omega) _ | refine below_drewN ?_ _ | refine Below.drew ?_ | (with_reducible refine Below.trans ?_ (Below.mono (by assumption) (by (try simp); try omega)))))
  clear hb
  replace c0 := lkeep hk c0
  replace c1 := lkeep hk c1
  replace c2 := lkeep hk c2
  replace c3 := lkeep hk c3
  replace c4 := lkeep hk c4
  replace c5 := lkeep hk c5
  replace c6 := lkeep hk c6
  replace c7 := lkeep hk c7
  replace c8 := lkeep hk c8
  replace c9 := lkeep hk c9
  replace e0 := lkeep hk e0
  replace e1 := lkeep hk e1
  replace e2 := lkeep hk e2
  replace hB := hB.trans (hk.mono hB.size)
  clear hk
  go_wp2_with fail
  go_at_call 20
  refine (pairs_any b1 _ l1 b2 _ l2 b3 k3 _ m3 b4 k4 _ m4 _ (L1.keep hB) (L2.keep hB) N1 N2 K30 K31 (W3.keep hB) K40 K41 (W4.keep hB)).mono ?_
  rintro e u2 ⟨B, f, rfl, PB, hb⟩
  have hk : Below u1.heap.size u1 u2 := by (repeat (first | with_reducible exact Below.refl _ _ | with_reducible assumption | refine Below.alloc ?_ (by (try simp); try omega) _ | refine Below.setCell ?_ (by (try simp); try omega) _ | refine below_drewN ?_ _ | refine Below.drew ?_ | (with_reducible refine Below.trans ?_ (Below.mono (by assumption) (by (try simp); try omega)))))
  clear hb
  clear c0 c1 c2 c3 c4 c5 c6 c7 c8 c9
  replace e0 := lkeep hk e0
  replace e1 := lkeep hk e1
  replace e2 := lkeep hk e2
  replace hB := hB.trans (hk.mono hB.size)
  clear hk
  have WD := W5.keep hB
  clear L1 L2 W3 W4 W5 N1 N2 K30 K31 K40 K41 K50 K51
  go_wp2
  go_loopw [27] (fun i wr => ∃ k : Nat, i = .int .i64 k ∧ k ≤ 2 ∧ Prs wr B f ∧ Wd wr (.slice q5 m5.length r5) m5 ∧ (wr.cell? ⟨g + 1, 0, none⟩ = some (.bool b5) ∧ wr.cell? ⟨g + 1, 1, none⟩ = some (.int .u8 k5) ∧ wr.cell? ⟨g + 1, 2, none⟩ = some (.slice q5 m5.length r5)) ∧ Below w.heap.size w wr)
    (fun i _ => 2 - (intOf i).toNat)
  case atStart => exact ⟨0, rfl, by omega, PB, WD, ⟨e0, e1, e2⟩, hB⟩
  case round =>
    clear PB hB WD e0 e1 e2
    obtain ⟨k, rfl, hk, PB, WD, ⟨e0, e1, e2⟩, hB⟩ := hrel
    by_cases hk4 : k = 2
    · subst hk4; clear PB; go_wp2; go_ret; exact ⟨rfl, hB⟩
    have hki : (k : Int) < 2 := by omega
    have hk1 : k + 1 ≤ 2 := by omega
    obtain ⟨x, y, dx, dy, hf⟩ := PB.num (k + 1) (by omega) (by omega)
    obtain ⟨a0, n0, j0, x0, x1, LX⟩ := PB.at0 (k + 1) (by omega)
    obtain ⟨a1, n1, j1, y0, y1, LY⟩ := PB.at1 (k + 1) (by omega)
    rw [hf] at x0 LX y0 LY
    simp only at x0 LX y0 LY
    replace LX : Lg wr (.agg #[.bool (decide (x < 0)), .slice a0 n0 j0]) x := ⟨_, rfl, LX⟩
    replace LY : Lg wr (.agg #[.bool (decide (y < 0)), .slice a1 n1 j1]) y := ⟨_, rfl, LY⟩
    obtain ⟨p, hp⟩ : ∃ p, decide (x < 0) = p := ⟨_, rfl⟩
    obtain ⟨p', hp'⟩ : ∃ p, decide (y < 0) = p := ⟨_, rfl⟩
    rw [hp] at x0 LX
    rw [hp'] at y0 LY
    clear hf hp hp'
    replace hk4 := Lib.hid hk4
    rw [show 4 * (k + 1) = 4 + k * 4 by omega] at x0 x1 y0 y1
    go_upto_region 6 with fail
    obtain ⟨d0, d1, d2, d3⟩ := cell4 (w := wr) (.bool p) (.slice a0 n0 j0) (.bool p') (.slice a1 n1 j1) 35
    have hB1 : Below w.heap.size w (wr.alloc (.cells #[.bool p, .slice a0 n0 j0, .bool p', .slice a1 n1 j1] 35)) := hB.alloc hB.size _
    have hb : Below wr.heap.size wr (wr.alloc (.cells #[.bool p, .slice a0 n0 j0, .bool p', .slice a1 n1 j1] 35)) := (Below.refl _ _).alloc (Nat.le_refl _) _
    replace PB := PB.keep hb
    replace LX := LX.keep hb
    replace LY := LY.keep hb
    replace WD := WD.keep hb
    replace e0 := lkeep hb e0
    replace e1 := lkeep hb e1
    replace e2 := lkeep hb e2
    clear hb hB x0 x1 y0 y1
    generalize wr.alloc (.cells #[.bool p, .slice a0 n0 j0, .bool p', .slice a1 n1 j1] 35) = v0 at *
    generalize wr.heap.size = g0 at *
    go_cut [7, 8, 9, 21, 22, 23, 24, 25, 26, 27] from 7 (fun v7 v8 v9 v21 v22 v23 v24 v25 v26 v27 wx => ∃ (ga gb gc : Nat) (pC : Bool) (aC : Option Addr) (nC kC : Nat), v7 = .pointer (some ⟨ga, 0, none⟩) ∧ v8 = .pointer (some ⟨gb, 0, none⟩) ∧ v9 = .pointer (some ⟨gc, 0, none⟩) ∧ v21 = .bool true ∧ v22 = .bool false ∧ v23 = .agg #[.bool b1, .slice q1 l1.length r1, .bool b2, .slice q2 l2.length r2, .bool b3, .int .u8 k3, .slice q3 m3.length r3, .bool b4, .int .u8 k4, .slice q4 m4.length r4] ∧ v24 = .slice (some ⟨B, 0, none⟩) 4 4 ∧ v25 = .slice (some ⟨B, 4, none⟩) 2 3 ∧ v26 = .int .i64 2 ∧ v27 = .int .i64 (k : Int) ∧ Bx wx ga (.bool p) (.slice a0 n0 j0) 24 ∧ Bx wx gb (.bool p') (.slice a1 n1 j1) 24 ∧ Bx wx gc (.bool pC) (.slice aC nC kC) 24 ∧ Lg wx (.agg #[.bool pC, .slice aC nC kC]) z ∧ (v0.heap.size ≤ ga ∧ v0.heap.size ≤ gb ∧ v0.heap.size ≤ gc) ∧ (ga ≠ gb ∧ ga ≠ gc ∧ gb ≠ gc) ∧ Below v0.heap.size v0 wx)
    case first =>
      clear PB LX LY hB1 dx dy
      have hB := Below.refl v0.heap.size v0
      have hS : ∀ W, Below v0.heap.size v0 W → W.cell? ⟨g0, 0, none⟩ = some (.bool p) ∧ W.cell? ⟨g0, 1, none⟩ = some (.slice a0 n0 j0) ∧ W.cell? ⟨g0, 2, none⟩ = some (.bool p') ∧ W.cell? ⟨g0, 3, none⟩ = some (.slice a1 n1 j1) ∧ W.cell? ⟨g + 1, 0, none⟩ = some (.bool b5) ∧ W.cell? ⟨g + 1, 1, none⟩ = some (.int .u8 k5) ∧ W.cell? ⟨g + 1, 2, none⟩ = some (.slice q5 m5.length r5) := fun W h => ⟨cell2 d0 h, cell2 d1 h, cell2 d2 h, cell2 d3 h, cell2 e0 h, cell2 e1 h, cell2 e2 h⟩
      refine wp_region_inv (by kernel_rfl) (by kernel_rfl) (fun A listed a' w' => ∃ (l0 l1 l2 l3 l4 l5 l6 l7 l8 l9 l10 l11 : Bool) (x31 x32 x33 x34 x35 x36 x7 x8 x9 : Value), (listed.getD 0 false = l0 ∧ listed.getD 1 false = l1 ∧ listed.getD 2 false = l2 ∧ listed.getD 3 false = l3 ∧ listed.getD 4 false = l4 ∧ listed.getD 5 false = l5 ∧ listed.getD 6 false = l6 ∧ listed.getD 7 false = l7 ∧ listed.getD 8 false = l8 ∧ listed.getD 9 false = l9 ∧ listed.getD 10 false = l10 ∧ listed.getD 11 false = l11) ∧ a' = (((((((((A.put (some 31) x31).put (some 32) x32).put (some 33) x33).put (some 34) x34).put (some 35) x35).put (some 36) x36).put (some 7) x7).put (some 8) x8).put (some 9) x9) ∧ (l0 = true → x31 = .pointer (some ⟨g0, 0, none⟩)) ∧ (l1 = true → x32 = .agg #[.bool p, .slice a0 n0 j0]) ∧ (l2 = true → x33 = .pointer (some ⟨g0, 2, none⟩)) ∧ (l3 = true → x34 = .agg #[.bool p', .slice a1 n1 j1]) ∧ (l4 = true → x35 = .agg #[.bool b5, .int .u8 k5, .slice q5 m5.length r5]) ∧ (l5 = true → ∃ (pC : Bool) (aC : Option Addr) (nC kC : Nat), x36 = .agg #[.bool pC, .slice aC nC kC] ∧ Lg w' x36 z) ∧ BxI v0.heap.size l6 l9 w' x7 x32 ∧ BxI v0.heap.size l7 l10 w' x8 x34 ∧ BxI v0.heap.size l8 l11 w' x9 x36 ∧ (l9 = true → l6 = true ∧ l1 = true) ∧ (l10 = true → l7 = true ∧ l3 = true) ∧ (l11 = true → l8 = true ∧ l5 = true) ∧ (l6 = true → l7 = true → x7 ≠ x8) ∧ (l6 = true → l8 = true → x7 ≠ x9) ∧ (l7 = true → l8 = true → x8 ≠ x9) ∧ Below v0.heap.size v0 w') ?_ ?_ ?_
      · refine ⟨false, false, false, false, false, false, false, false, false, false, false, false, ?_, ?_, ?_, ?_, ?_, ?_, ?_, ?_, ?_, ⟨rfl, rfl, rfl, rfl, rfl, rfl, rfl, rfl, rfl, rfl, rfl, rfl⟩, ?_, (fun h => by cases h), (fun h => by cases h), (fun h => by cases h), (fun h => by cases h), (fun h => by cases h), (fun h => by cases h), (fun h => by cases h), (fun h => by cases h), (fun h => by cases h), (fun h => by cases h), (fun h => by cases h), (fun h => by cases h), (fun h => by cases h), (fun h => by cases h), (fun h => by cases h), (Below.refl _ _).drew⟩
        rotate_left 9
        with_reducible refine put_ex ?_ ?_
        with_reducible refine put_ex ?_ ?_
        with_reducible refine put_ex ?_ ?_
        with_reducible refine put_ex ?_ ?_
        with_reducible refine put_ex ?_ ?_
        with_reducible refine put_ex ?_ ?_
        with_reducible refine put_ex ?_ ?_
        with_reducible refine put_ex ?_ ?_
        with_reducible refine put_ex ?_ ?_
        with_reducible rfl
        all_goals first | (show _ < Array.size _; simp only [List.size_toArray, List.length_cons, List.length_nil]; omega) | skip
      · rintro listed a' w' i hn ⟨l0, l1, l2, l3, l4, l5, l6, l7, l8, l9, l10, l11, x31, x32, x33, x34, x35, x36, x7, x8, x9, ⟨h0, h1, h2, h3, h4, h5, h6, h7, h8, h9, h10, h11⟩, rfl, i0, i1, i2, i3, i4, i5, qa, qb, qc, sa, sb, sc, dab, dac, dbc, hW⟩ hi hnl hdp
        have hi' : i < 12 := hi
        clear hi
        obtain ⟨f0, f1, f2, f3, f4, f5, f6⟩ := hS _ hW
        rcases (by omega : i = 0 ∨ i = 1 ∨ i = 2 ∨ i = 3 ∨ i = 4 ∨ i = 5 ∨ i = 6 ∨ i = 7 ∨ i = 8 ∨ i = 9 ∨ i = 10 ∨ i = 11) with rfl | rfl | rfl | rfl | rfl | rfl | rfl | rfl | rfl | rfl | rfl | rfl
        · -- operation 0
          refine wpOp_step rfl (fun K hK => ?_)
          go_simp
          refine hK _ _ ⟨true, l1, l2, l3, l4, l5, l6, l7, l8, l9, l10, l11, .pointer (some ⟨g0, 0, none⟩), x32, x33, x34, x35, x36, x7, x8, x9, ⟨getD_same (by rw [hn]; decide) _, (getD_other (by decide) _).trans h1, (getD_other (by decide) _).trans h2, (getD_other (by decide) _).trans h3, (getD_other (by decide) _).trans h4, (getD_other (by decide) _).trans h5, (getD_other (by decide) _).trans h6, (getD_other (by decide) _).trans h7, (getD_other (by decide) _).trans h8, (getD_other (by decide) _).trans h9, (getD_other (by decide) _).trans h10, (getD_other (by decide) _).trans h11⟩, by simp only [Act.put, List.setIfInBounds_toArray, List.set_cons_zero, List.set_cons_succ], fun _ => rfl, i1, i2, i3, i4, i5, qa, qb, qc, sa, sb, sc, dab, dac, dbc, hW⟩
        · -- operation 1
          have k0 := hdp 0 (List.elem_iff.1 (by kernel_rfl)); rw [h0] at k0; subst k0
          obtain rfl := i0 rfl
          have e9 : l9 = false := by cases l9; rfl; have := (sa rfl).2; subst this; rw [hnl] at h1; cases h1
          subst e9
          refine wpOp_step rfl (fun K hK => ?_)
          go_simp
          refine hK _ _ ⟨true, true, l2, l3, l4, l5, l6, l7, l8, false, l10, l11, .pointer (some ⟨g0, 0, none⟩), .agg #[.bool p, .slice a0 n0 j0], x33, x34, x35, x36, x7, x8, x9, ⟨(getD_other (by decide) _).trans h0, getD_same (by rw [hn]; decide) _, (getD_other (by decide) _).trans h2, (getD_other (by decide) _).trans h3, (getD_other (by decide) _).trans h4, (getD_other (by decide) _).trans h5, (getD_other (by decide) _).trans h6, (getD_other (by decide) _).trans h7, (getD_other (by decide) _).trans h8, (getD_other (by decide) _).trans h9, (getD_other (by decide) _).trans h10, (getD_other (by decide) _).trans h11⟩, by simp only [Act.put, List.setIfInBounds_toArray, List.set_cons_zero, List.set_cons_succ], fun _ => rfl, fun _ => rfl, i2, i3, i4, i5, qa.val, qb, qc, (fun h => by cases h), sb, sc, dab, dac, dbc, hW⟩
        · -- operation 2
          refine wpOp_step rfl (fun K hK => ?_)
          go_simp
          refine hK _ _ ⟨l0, l1, true, l3, l4, l5, l6, l7, l8, l9, l10, l11, x31, x32, .pointer (some ⟨g0, 2, none⟩), x34, x35, x36, x7, x8, x9, ⟨(getD_other (by decide) _).trans h0, (getD_other (by decide) _).trans h1, getD_same (by rw [hn]; decide) _, (getD_other (by decide) _).trans h3, (getD_other (by decide) _).trans h4, (getD_other (by decide) _).trans h5, (getD_other (by decide) _).trans h6, (getD_other (by decide) _).trans h7, (getD_other (by decide) _).trans h8, (getD_other (by decide) _).trans h9, (getD_other (by decide) _).trans h10, (getD_other (by decide) _).trans h11⟩, by simp only [Act.put, List.setIfInBounds_toArray, List.set_cons_zero, List.set_cons_succ], i0, i1, fun _ => rfl, i3, i4, i5, qa, qb, qc, sa, sb, sc, dab, dac, dbc, hW⟩
        · -- operation 3
          have k2 := hdp 2 (List.elem_iff.1 (by kernel_rfl)); rw [h2] at k2; subst k2
          obtain rfl := i2 rfl
          have e10 : l10 = false := by cases l10; rfl; have := (sb rfl).2; subst this; rw [hnl] at h3; cases h3
          subst e10
          refine wpOp_step rfl (fun K hK => ?_)
          go_simp
          refine hK _ _ ⟨l0, l1, true, true, l4, l5, l6, l7, l8, l9, false, l11, x31, x32, .pointer (some ⟨g0, 2, none⟩), .agg #[.bool p', .slice a1 n1 j1], x35, x36, x7, x8, x9, ⟨(getD_other (by decide) _).trans h0, (getD_other (by decide) _).trans h1, (getD_other (by decide) _).trans h2, getD_same (by rw [hn]; decide) _, (getD_other (by decide) _).trans h4, (getD_other (by decide) _).trans h5, (getD_other (by decide) _).trans h6, (getD_other (by decide) _).trans h7, (getD_other (by decide) _).trans h8, (getD_other (by decide) _).trans h9, (getD_other (by decide) _).trans h10, (getD_other (by decide) _).trans h11⟩, by simp only [Act.put, List.setIfInBounds_toArray, List.set_cons_zero, List.set_cons_succ], i0, i1, fun _ => rfl, fun _ => rfl, i4, i5, qa, qb.val, qc, sa, (fun h => by cases h), sc, dab, dac, dbc, hW⟩
        · -- operation 4
          refine wpOp_step rfl (fun K hK => ?_)
          go_simp
          refine hK _ _ ⟨l0, l1, l2, l3, true, l5, l6, l7, l8, l9, l10, l11, x31, x32, x33, x34, .agg #[.bool b5, .int .u8 k5, .slice q5 m5.length r5], x36, x7, x8, x9, ⟨(getD_other (by decide) _).trans h0, (getD_other (by decide) _).trans h1, (getD_other (by decide) _).trans h2, (getD_other (by decide) _).trans h3, getD_same (by rw [hn]; decide) _, (getD_other (by decide) _).trans h5, (getD_other (by decide) _).trans h6, (getD_other (by decide) _).trans h7, (getD_other (by decide) _).trans h8, (getD_other (by decide) _).trans h9, (getD_other (by decide) _).trans h10, (getD_other (by decide) _).trans h11⟩, by simp only [Act.put, List.setIfInBounds_toArray, List.set_cons_zero, List.set_cons_succ], i0, i1, i2, i3, fun _ => rfl, i5, qa, qb, qc, sa, sb, sc, dab, dac, dbc, hW⟩
        · -- operation 5
          have k4 := hdp 4 (List.elem_iff.1 (by kernel_rfl)); rw [h4] at k4; subst k4
          obtain rfl := i4 rfl
          have e11 : l11 = false := by cases l11; rfl; have := (sc rfl).2; subst this; rw [hnl] at h5; cases h5
          subst e11
          refine wpOp_step rfl (fun K hK => ?_)
          go_simp
          go_at_call 43
          refine (hSh.out _ (WD.keep hW)).mono ?_
          rintro e uz ⟨⟨pC, aC, nC, kC, rfl, LC⟩, hb⟩
          try go_simp
          refine hK _ _ ⟨l0, l1, l2, l3, true, true, l6, l7, l8, l9, l10, false, x31, x32, x33, x34, .agg #[.bool b5, .int .u8 k5, .slice q5 m5.length r5], _, x7, x8, x9, ⟨(getD_other (by decide) _).trans h0, (getD_other (by decide) _).trans h1, (getD_other (by decide) _).trans h2, (getD_other (by decide) _).trans h3, (getD_other (by decide) _).trans h4, getD_same (by rw [hn]; decide) _, (getD_other (by decide) _).trans h6, (getD_other (by decide) _).trans h7, (getD_other (by decide) _).trans h8, (getD_other (by decide) _).trans h9, (getD_other (by decide) _).trans h10, (getD_other (by decide) _).trans h11⟩, by simp only [Act.put, List.setIfInBounds_toArray, List.set_cons_zero, List.set_cons_succ], i0, i1, i2, i3, fun _ => rfl, fun _ => ⟨pC, aC, nC, kC, rfl, LC⟩, (qa.keep hb), (qb.keep hb), (qc.keep hb).val, sa, sb, (fun h => by cases h), dab, dac, dbc, (hW.trans (hb.mono hW.size))⟩
        · -- operation 6
          have e9 : l9 = false := by cases l9; rfl; have := (sa rfl).1; subst this; rw [hnl] at h6; cases h6
          subst e9
          refine wpOp_step rfl (fun K hK => ?_)
          go_simp
          refine hK _ _ ⟨l0, l1, l2, l3, l4, l5, true, l7, l8, false, l10, l11, x31, x32, x33, x34, x35, x36, _, x8, x9, ⟨(getD_other (by decide) _).trans h0, (getD_other (by decide) _).trans h1, (getD_other (by decide) _).trans h2, (getD_other (by decide) _).trans h3, (getD_other (by decide) _).trans h4, (getD_other (by decide) _).trans h5, getD_same (by rw [hn]; decide) _, (getD_other (by decide) _).trans h7, (getD_other (by decide) _).trans h8, (getD_other (by decide) _).trans h9, (getD_other (by decide) _).trans h10, (getD_other (by decide) _).trans h11⟩, by simp only [Act.put, List.setIfInBounds_toArray, List.set_cons_zero, List.set_cons_succ], i0, i1, i2, i3, i4, (fun h => by obtain ⟨pC, aC, nC, kC, e1, e2⟩ := i5 h; exact ⟨pC, aC, nC, kC, e1, e2.allocI _⟩), (fun _ => ⟨_, _, _, _, _, rfl, hW.size, Bx.new _ _ _ _, (fun h => by cases h)⟩), (qb.alloc _), (qc.alloc _), (fun h => by cases h), sb, sc, (fun _ h => (qb.ne h).symm), (fun _ h => (qc.ne h).symm), dbc, (hW.alloc hW.size _)⟩
        · -- operation 7
          have e10 : l10 = false := by cases l10; rfl; have := (sb rfl).1; subst this; rw [hnl] at h7; cases h7
          subst e10
          refine wpOp_step rfl (fun K hK => ?_)
          go_simp
          refine hK _ _ ⟨l0, l1, l2, l3, l4, l5, l6, true, l8, l9, false, l11, x31, x32, x33, x34, x35, x36, x7, _, x9, ⟨(getD_other (by decide) _).trans h0, (getD_other (by decide) _).trans h1, (getD_other (by decide) _).trans h2, (getD_other (by decide) _).trans h3, (getD_other (by decide) _).trans h4, (getD_other (by decide) _).trans h5, (getD_other (by decide) _).trans h6, getD_same (by rw [hn]; decide) _, (getD_other (by decide) _).trans h8, (getD_other (by decide) _).trans h9, (getD_other (by decide) _).trans h10, (getD_other (by decide) _).trans h11⟩, by simp only [Act.put, List.setIfInBounds_toArray, List.set_cons_zero, List.set_cons_succ], i0, i1, i2, i3, i4, (fun h => by obtain ⟨pC, aC, nC, kC, e1, e2⟩ := i5 h; exact ⟨pC, aC, nC, kC, e1, e2.allocI _⟩), (qa.alloc _), (fun _ => ⟨_, _, _, _, _, rfl, hW.size, Bx.new _ _ _ _, (fun h => by cases h)⟩), (qc.alloc _), sa, (fun h => by cases h), sc, (fun h _ => qa.ne h), dac, (fun _ h => (qc.ne h).symm), (hW.alloc hW.size _)⟩
        · -- operation 8
          have e11 : l11 = false := by cases l11; rfl; have := (sc rfl).1; subst this; rw [hnl] at h8; cases h8
          subst e11
          refine wpOp_step rfl (fun K hK => ?_)
          go_simp
          refine hK _ _ ⟨l0, l1, l2, l3, l4, l5, l6, l7, true, l9, l10, false, x31, x32, x33, x34, x35, x36, x7, x8, _, ⟨(getD_other (by decide) _).trans h0, (getD_other (by decide) _).trans h1, (getD_other (by decide) _).trans h2, (getD_other (by decide) _).trans h3, (getD_other (by decide) _).trans h4, (getD_other (by decide) _).trans h5, (getD_other (by decide) _).trans h6, (getD_other (by decide) _).trans h7, getD_same (by rw [hn]; decide) _, (getD_other (by decide) _).trans h9, (getD_other (by decide) _).trans h10, (getD_other (by decide) _).trans h11⟩, by simp only [Act.put, List.setIfInBounds_toArray, List.set_cons_zero, List.set_cons_succ], i0, i1, i2, i3, i4, (fun h => by obtain ⟨pC, aC, nC, kC, e1, e2⟩ := i5 h; exact ⟨pC, aC, nC, kC, e1, e2.allocI _⟩), (qa.alloc _), (qb.alloc _), (fun _ => ⟨_, _, _, _, _, rfl, hW.size, Bx.new _ _ _ _, (fun h => by cases h)⟩), sa, sb, (fun h => by cases h), dab, (fun h _ => qa.ne h), (fun h _ => qb.ne h), (hW.alloc hW.size _)⟩
        · -- operation 9
          have k6 := hdp 6 (List.elem_iff.1 (by kernel_rfl)); rw [h6] at k6; subst k6
          have k1 := hdp 1 (List.elem_iff.1 (by kernel_rfl)); rw [h1] at k1; subst k1
          obtain rfl := i1 rfl
          obtain ⟨gx, b0, e0', n0', k0', rfl, hgx, hbx, hst⟩ := qa rfl
          have r0 := hbx.c0
          have r1 := hbx.c1
          have z0 := hbx.f 0
          have z1 := hbx.f 1
          refine wpOp_step rfl (fun K hK => ?_)
          go_simp
          refine hK _ _ ⟨l0, true, l2, l3, l4, l5, true, l7, l8, true, l10, l11, x31, .agg #[.bool p, .slice a0 n0 j0], x33, x34, x35, x36, _, x8, x9, ⟨(getD_other (by decide) _).trans h0, (getD_other (by decide) _).trans h1, (getD_other (by decide) _).trans h2, (getD_other (by decide) _).trans h3, (getD_other (by decide) _).trans h4, (getD_other (by decide) _).trans h5, (getD_other (by decide) _).trans h6, (getD_other (by decide) _).trans h7, (getD_other (by decide) _).trans h8, getD_same (by rw [hn]; decide) _, (getD_other (by decide) _).trans h10, (getD_other (by decide) _).trans h11⟩, by simp only [Act.put, List.setIfInBounds_toArray, List.set_cons_zero, List.set_cons_succ], i0, (fun _ => rfl), i2, i3, i4, (fun h => by obtain ⟨pC, aC, nC, kC, e1, e2⟩ := i5 h; exact ⟨pC, aC, nC, kC, e1, e2.put hbx _ _ _ _⟩), (fun _ => ⟨_, _, _, _, _, rfl, hgx, hbx.putP _ _, fun _ => rfl⟩), (qb.far (fun h e => dab rfl h e.symm) _ _), (qc.far (fun h e => dac rfl h e.symm) _ _), (fun _ => ⟨rfl, rfl⟩), sb, sc, dab, dac, dbc, ((hW.setCell hgx _).setCell hgx _)⟩
        · -- operation 10
          have k7 := hdp 7 (List.elem_iff.1 (by kernel_rfl)); rw [h7] at k7; subst k7
          have k3 := hdp 3 (List.elem_iff.1 (by kernel_rfl)); rw [h3] at k3; subst k3
          obtain rfl := i3 rfl
          obtain ⟨gx, b0, e0', n0', k0', rfl, hgx, hbx, hst⟩ := qb rfl
          have r0 := hbx.c0
          have r1 := hbx.c1
          have z0 := hbx.f 0
          have z1 := hbx.f 1
          refine wpOp_step rfl (fun K hK => ?_)
          go_simp
          refine hK _ _ ⟨l0, l1, l2, true, l4, l5, l6, true, l8, l9, true, l11, x31, x32, x33, .agg #[.bool p', .slice a1 n1 j1], x35, x36, x7, _, x9, ⟨(getD_other (by decide) _).trans h0, (getD_other (by decide) _).trans h1, (getD_other (by decide) _).trans h2, (getD_other (by decide) _).trans h3, (getD_other (by decide) _).trans h4, (getD_other (by decide) _).trans h5, (getD_other (by decide) _).trans h6, (getD_other (by decide) _).trans h7, (getD_other (by decide) _).trans h8, (getD_other (by decide) _).trans h9, getD_same (by rw [hn]; decide) _, (getD_other (by decide) _).trans h11⟩, by simp only [Act.put, List.setIfInBounds_toArray, List.set_cons_zero, List.set_cons_succ], i0, i1, i2, (fun _ => rfl), i4, (fun h => by obtain ⟨pC, aC, nC, kC, e1, e2⟩ := i5 h; exact ⟨pC, aC, nC, kC, e1, e2.put hbx _ _ _ _⟩), (qa.far (fun h e => dab h rfl e) _ _), (fun _ => ⟨_, _, _, _, _, rfl, hgx, hbx.putP _ _, fun _ => rfl⟩), (qc.far (fun h e => dbc rfl h e.symm) _ _), sa, (fun _ => ⟨rfl, rfl⟩), sc, dab, dac, dbc, ((hW.setCell hgx _).setCell hgx _)⟩
        · -- operation 11
          have k8 := hdp 8 (List.elem_iff.1 (by kernel_rfl)); rw [h8] at k8; subst k8
          have k5 := hdp 5 (List.elem_iff.1 (by kernel_rfl)); rw [h5] at k5; subst k5
          obtain ⟨pC, aC, nC, kC, rfl, LC⟩ := i5 rfl
          obtain ⟨gx, b0, e0', n0', k0', rfl, hgx, hbx, hst⟩ := qc rfl
          have r0 := hbx.c0
          have r1 := hbx.c1
          have z0 := hbx.f 0
          have z1 := hbx.f 1
          refine wpOp_step rfl (fun K hK => ?_)
          go_simp
          refine hK _ _ ⟨l0, l1, l2, l3, l4, true, l6, l7, true, l9, l10, true, x31, x32, x33, x34, x35, _, x7, x8, _, ⟨(getD_other (by decide) _).trans h0, (getD_other (by decide) _).trans h1, (getD_other (by decide) _).trans h2, (getD_other (by decide) _).trans h3, (getD_other (by decide) _).trans h4, (getD_other (by decide) _).trans h5, (getD_other (by decide) _).trans h6, (getD_other (by decide) _).trans h7, (getD_other (by decide) _).trans h8, (getD_other (by decide) _).trans h9, (getD_other (by decide) _).trans h10, getD_same (by rw [hn]; decide) _⟩, by simp only [Act.put, List.setIfInBounds_toArray, List.set_cons_zero, List.set_cons_succ], i0, i1, i2, i3, i4, (fun _ => ⟨pC, aC, nC, kC, rfl, LC.put hbx _ _ _ _⟩), (qa.far (fun h e => dac h rfl e) _ _), (qb.far (fun h e => dbc h rfl e) _ _), (fun _ => ⟨_, _, _, _, _, rfl, hgx, hbx.putP _ _, fun _ => rfl⟩), sa, sb, (fun _ => ⟨rfl, rfl⟩), dab, dac, dbc, ((hW.setCell hgx _).setCell hgx _)⟩
      · rintro listed a' w' ⟨l0, l1, l2, l3, l4, l5, l6, l7, l8, l9, l10, l11, x31, x32, x33, x34, x35, x36, x7, x8, x9, ⟨h0, h1, h2, h3, h4, h5, h6, h7, h8, h9, h10, h11⟩, rfl, i0, i1, i2, i3, i4, i5, qa, qb, qc, sa, sb, sc, dab, dac, dbc, hW⟩ hall
        have k0 := hall 0 (by decide)
        rw [h0] at k0
        subst k0
        have k1 := hall 1 (by decide)
        rw [h1] at k1
        subst k1
        have k2 := hall 2 (by decide)
        rw [h2] at k2
        subst k2
        have k3 := hall 3 (by decide)
        rw [h3] at k3
        subst k3
        have k4 := hall 4 (by decide)
        rw [h4] at k4
        subst k4
        have k5 := hall 5 (by decide)
        rw [h5] at k5
        subst k5
        have k6 := hall 6 (by decide)
        rw [h6] at k6
        subst k6
        have k7 := hall 7 (by decide)
        rw [h7] at k7
        subst k7
        have k8 := hall 8 (by decide)
        rw [h8] at k8
        subst k8
        have k9 := hall 9 (by decide)
        rw [h9] at k9
        subst k9
        have k10 := hall 10 (by decide)
        rw [h10] at k10
        subst k10
        have k11 := hall 11 (by decide)
        rw [h11] at k11
        subst k11
        obtain rfl := i1 rfl
        obtain rfl := i3 rfl
        obtain ⟨pC, aC, nC, kC, rfl, LC⟩ := i5 rfl
        obtain ⟨ga, _, _, _, _, rfl, hga, ba, ea⟩ := qa rfl
        obtain ⟨gb, _, _, _, _, rfl, hgb, bb, eb⟩ := qb rfl
        obtain ⟨gc, _, _, _, _, rfl, hgc, bc, ec⟩ := qc rfl
        have ea' := ea rfl
        have eb' := eb rfl
        have ec' := ec rfl
        simp only [Value.agg.injEq, Array.mk.injEq, List.cons.injEq, Value.bool.injEq, Value.slice.injEq, and_true] at ea' eb' ec'
        obtain ⟨rfl, rfl, rfl, rfl⟩ := ea'
        obtain ⟨rfl, rfl, rfl, rfl⟩ := eb'
        obtain ⟨rfl, rfl, rfl, rfl⟩ := ec'
        have hab : ga ≠ gb := fun e => dab rfl rfl (by rw [e])
        have hac : ga ≠ gc := fun e => dac rfl rfl (by rw [e])
        have hbc : gb ≠ gc := fun e => dbc rfl rfl (by rw [e])
        clear hall
        go_wp2_with fail
        go_meet
        exact ⟨ga, gb, gc, _, _, _, _, rfl, rfl, rfl, rfl, rfl, rfl, rfl, rfl, rfl, rfl, ba, bb, bc, LC, ⟨hga, hgb, hgc⟩, ⟨hab, hac, hbc⟩, hW⟩
    case rest =>
      obtain ⟨gbA, gbB, gbC, pC, aC, nC, kC, rfl, rfl, rfl, rfl, rfl, rfl, rfl, rfl, rfl, rfl, bA, bB, bC, LC, ⟨hga, hgb, hgc⟩, ⟨ltbAbB, ltbAbC, ltbBbC⟩, hX⟩ := hcut
      replace PB := PB.keep hX
      replace LX := LX.keep hX
      replace LY := LY.keep hX
      replace WD := WD.keep hX
      replace e0 := lkeep hX e0
      replace e1 := lkeep hX e1
      replace e2 := lkeep hX e2
      have hB := hB1.trans (hX.mono hB1.size)
      clear hX hga hgb hgc hB1 d0 d1 d2 d3 hSh
      have D1 := Dl_add x y
      have D2 := Dl_mul x z
      have D3 := Dl_mul y z
      have D4 := Dl_mul z (x + y)
      have E1 : y + x = x + y := Int.add_comm _ _
      have E2 : x + y - y = x := by omega
      have E3 : x * z + y * z = z * (x + y) := by grind
      obtain ⟨s, hs⟩ : ∃ s, x + y = s := ⟨_, rfl⟩
      obtain ⟨zz1, hzz1⟩ : ∃ s, x * z = s := ⟨_, rfl⟩
      obtain ⟨zz2, hzz2⟩ : ∃ s, y * z = s := ⟨_, rfl⟩
      obtain ⟨zz3, hzz3⟩ : ∃ t, z * s = t := ⟨_, rfl⟩
      rw [hs] at D1 D4 E1 E2 E3
      rw [hzz1] at D2 E3
      rw [hzz2] at D3 E3
      rw [hzz3] at D4 E3
      have H0 := Lib.hid hs
      have H1 := Lib.hid hzz1
      have H2 := Lib.hid hzz2
      have H3 := Lib.hid hzz3
      replace E1 := Lib.hid E1
      replace E2 := Lib.hid E2
      replace E3 := Lib.hid E3
      clear hs hzz1 hzz2 hzz3
      have rbA0 : wc.cell? ⟨gbA, 0, none⟩ = some (.bool p) := bA.c0
      have rbA1 : wc.cell? ⟨gbA, 1, none⟩ = some (.slice a0 n0 j0) := bA.c1
      have rbB0 : wc.cell? ⟨gbB, 0, none⟩ = some (.bool p') := bB.c0
      have rbB1 : wc.cell? ⟨gbB, 1, none⟩ = some (.slice a1 n1 j1) := bB.c1
      go_wp2_with fail
      clear rbA0 rbA1 rbB0 rbB1
      go_at_call 29
      refine (add_okE _ _ x y s _ LX LY (by omega) (by omega) H0.out (by omega)).mono ?_
      rintro e u3 ⟨⟨pS, aSx, nSx, kSx, rfl, LS⟩, hb⟩
      have hk : Below wc.heap.size wc u3 := by (repeat (first | with_reducible exact Below.refl _ _ | with_reducible assumption | refine Below.alloc ?_ (by (try simp); try omega) _ | refine Below.setCell ?_ (by (try simp); try omega) _ | refine below_drewN ?_ _ | refine Below.drew ?_ | (with_reducible refine Below.trans ?_ (Below.mono (by assumption) (by (try simp); try omega)))))
      clear hb
      replace PB := PB.keep hk
      replace WD := WD.keep hk
      replace LX := LX.keep hk
      replace LY := LY.keep hk
      replace LC := LC.keep hk
      replace bA := bA.keep hk
      replace bB := bB.keep hk
      replace bC := bC.keep hk
      replace e0 := lkeep hk e0
      replace e1 := lkeep hk e1
      replace e2 := lkeep hk e2
      replace hB := hB.trans (hk.mono hB.size)
      clear hk
      have rbB0 : (u3.alloc (.cells #[.bool pS, .slice aSx nSx kSx] 24)).cell? ⟨gbB, 0, none⟩ = some (.bool p') := (bB.alloc _).c0
      have rbB1 : (u3.alloc (.cells #[.bool pS, .slice aSx nSx kSx] 24)).cell? ⟨gbB, 1, none⟩ = some (.slice a1 n1 j1) := (bB.alloc _).c1
      have rbA0 : (u3.alloc (.cells #[.bool pS, .slice aSx nSx kSx] 24)).cell? ⟨gbA, 0, none⟩ = some (.bool p) := (bA.alloc _).c0
      have rbA1 : (u3.alloc (.cells #[.bool pS, .slice aSx nSx kSx] 24)).cell? ⟨gbA, 1, none⟩ = some (.slice a0 n0 j0) := (bA.alloc _).c1
      go_wp2_with fail
      clear rbB0 rbB1 rbA0 rbA1
      have hX : Below u3.heap.size u3 (u3.alloc (.cells #[.bool pS, .slice aSx nSx kSx] 24)) := by (repeat (first | with_reducible exact Below.refl _ _ | with_reducible assumption | refine Below.alloc ?_ (by (try simp); try omega) _ | refine Below.setCell ?_ (by (try simp); try omega) _ | refine below_drewN ?_ _ | refine Below.drew ?_ | (with_reducible refine Below.trans ?_ (Below.mono (by assumption) (by (try simp); try omega)))))
      have bS : Bx (u3.alloc (.cells #[.bool pS, .slice aSx nSx kSx] 24)) (u3.heap.size) (.bool pS) (.slice aSx nSx kSx) 24 := by exact (Bx.new u3 (.bool pS) (.slice aSx nSx kSx) 24)
      have gebS : w.heap.size ≤ u3.heap.size := by have := hB.size; omega
      have ltbAbS : gbA < u3.heap.size := by have := bA.lt; omega
      have ltbBbS : gbB < u3.heap.size := by have := bB.lt; omega
      have ltbCbS : gbC < u3.heap.size := by have := bC.lt; omega
      replace PB := PB.keep hX
      replace WD := WD.keep hX
      replace LX := LX.keep hX
      replace LY := LY.keep hX
      replace LC := LC.keep hX
      replace LS := LS.keep hX
      replace bA := bA.keep hX
      replace bB := bB.keep hX
      replace bC := bC.keep hX
      replace e0 := lkeep hX e0
      replace e1 := lkeep hX e1
      replace e2 := lkeep hX e2
      replace hB := hB.trans (hX.mono hB.size)
      clear hX
      generalize (u3.alloc (.cells #[.bool pS, .slice aSx nSx kSx] 24)) = v4 at *
      generalize u3.heap.size = gbS at *
      go_at_call 29
      refine (add_okE _ _ y x s _ LY LX (by omega) (by omega) E1.out (by omega)).mono ?_
      rintro e u5 ⟨⟨pR, aRx, nRx, kRx, rfl, LR⟩, hb⟩
      have hk : Below v4.heap.size v4 u5 := by (repeat (first | with_reducible exact Below.refl _ _ | with_reducible assumption | refine Below.alloc ?_ (by (try simp); try omega) _ | refine Below.setCell ?_ (by (try simp); try omega) _ | refine below_drewN ?_ _ | refine Below.drew ?_ | (with_reducible refine Below.trans ?_ (Below.mono (by assumption) (by (try simp); try omega)))))
      clear hb
      replace PB := PB.keep hk
      replace WD := WD.keep hk
      replace LX := LX.keep hk
      replace LY := LY.keep hk
      replace LC := LC.keep hk
      replace LS := LS.keep hk
      replace bA := bA.keep hk
      replace bB := bB.keep hk
      replace bC := bC.keep hk
      replace bS := bS.keep hk
      replace e0 := lkeep hk e0
      replace e1 := lkeep hk e1
      replace e2 := lkeep hk e2
      replace hB := hB.trans (hk.mono hB.size)
      clear hk
      have rbS0 : (u5.alloc (.cells #[.bool pR, .slice aRx nRx kRx] 24)).cell? ⟨gbS, 0, none⟩ = some (.bool pS) := (bS.alloc _).c0
      have rbS1 : (u5.alloc (.cells #[.bool pR, .slice aRx nRx kRx] 24)).cell? ⟨gbS, 1, none⟩ = some (.slice aSx nSx kSx) := (bS.alloc _).c1
      have rbB0 : (u5.alloc (.cells #[.bool pR, .slice aRx nRx kRx] 24)).cell? ⟨gbB, 0, none⟩ = some (.bool p') := (bB.alloc _).c0
      have rbB1 : (u5.alloc (.cells #[.bool pR, .slice aRx nRx kRx] 24)).cell? ⟨gbB, 1, none⟩ = some (.slice a1 n1 j1) := (bB.alloc _).c1
      go_wp2_with fail
      clear rbS0 rbS1 rbB0 rbB1
      have hX : Below u5.heap.size u5 (u5.alloc (.cells #[.bool pR, .slice aRx nRx kRx] 24)) := by (repeat (first | with_reducible exact Below.refl _ _ | with_reducible assumption | refine Below.alloc ?_ (by (try simp); try omega) _ | refine Below.setCell ?_ (by (try simp); try omega) _ | refine below_drewN ?_ _ | refine Below.drew ?_ | (with_reducible refine Below.trans ?_ (Below.mono (by assumption) (by (try simp); try omega)))))
      have bR : Bx (u5.alloc (.cells #[.bool pR, .slice aRx nRx kRx] 24)) (u5.heap.size) (.bool pR) (.slice aRx nRx kRx) 24 := by exact (Bx.new u5 (.bool pR) (.slice aRx nRx kRx) 24)
      have gebR : w.heap.size ≤ u5.heap.size := by have := hB.size; omega
      have ltbAbR : gbA < u5.heap.size := by have := bA.lt; omega
      have ltbBbR : gbB < u5.heap.size := by have := bB.lt; omega
      have ltbCbR : gbC < u5.heap.size := by have := bC.lt; omega
      have ltbSbR : gbS < u5.heap.size := by have := bS.lt; omega
      replace PB := PB.keep hX
      replace WD := WD.keep hX
      replace LX := LX.keep hX
      replace LY := LY.keep hX
      replace LC := LC.keep hX
      replace LS := LS.keep hX
      replace LR := LR.keep hX
      replace bA := bA.keep hX
      replace bB := bB.keep hX
      replace bC := bC.keep hX
      replace bS := bS.keep hX
      replace e0 := lkeep hX e0
      replace e1 := lkeep hX e1
      replace e2 := lkeep hX e2
      replace hB := hB.trans (hX.mono hB.size)
      clear hX
      generalize (u5.alloc (.cells #[.bool pR, .slice aRx nRx kRx] 24)) = v6 at *
      generalize u5.heap.size = gbR at *
      go_at_call 31
      refine (sub_okE _ _ s y x _ LS LY (by omega) (by omega) E2.out (by omega)).mono ?_
      rintro e u7 ⟨⟨pK, aKx, nKx, kKx, rfl, LK⟩, hb⟩
      have hk : Below v6.heap.size v6 u7 := by (repeat (first | with_reducible exact Below.refl _ _ | with_reducible assumption | refine Below.alloc ?_ (by (try simp); try omega) _ | refine Below.setCell ?_ (by (try simp); try omega) _ | refine below_drewN ?_ _ | refine Below.drew ?_ | (with_reducible refine Below.trans ?_ (Below.mono (by assumption) (by (try simp); try omega)))))
      clear hb
      replace PB := PB.keep hk
      replace WD := WD.keep hk
      replace LX := LX.keep hk
      replace LY := LY.keep hk
      replace LC := LC.keep hk
      replace LS := LS.keep hk
      replace LR := LR.keep hk
      replace bA := bA.keep hk
      replace bB := bB.keep hk
      replace bC := bC.keep hk
      replace bS := bS.keep hk
      replace bR := bR.keep hk
      replace e0 := lkeep hk e0
      replace e1 := lkeep hk e1
      replace e2 := lkeep hk e2
      replace hB := hB.trans (hk.mono hB.size)
      clear hk
      have rbS0 : (u7.alloc (.cells #[.bool pK, .slice aKx nKx kKx] 24)).cell? ⟨gbS, 0, none⟩ = some (.bool pS) := (bS.alloc _).c0
      have rbS1 : (u7.alloc (.cells #[.bool pK, .slice aKx nKx kKx] 24)).cell? ⟨gbS, 1, none⟩ = some (.slice aSx nSx kSx) := (bS.alloc _).c1
      have rbR0 : (u7.alloc (.cells #[.bool pK, .slice aKx nKx kKx] 24)).cell? ⟨gbR, 0, none⟩ = some (.bool pR) := (bR.alloc _).c0
      have rbR1 : (u7.alloc (.cells #[.bool pK, .slice aKx nKx kKx] 24)).cell? ⟨gbR, 1, none⟩ = some (.slice aRx nRx kRx) := (bR.alloc _).c1
      go_wp2_with fail
      clear rbS0 rbS1 rbR0 rbR1
      have hX : Below u7.heap.size u7 (u7.alloc (.cells #[.bool pK, .slice aKx nKx kKx] 24)) := by (repeat (first | with_reducible exact Below.refl _ _ | with_reducible assumption | refine Below.alloc ?_ (by (try simp); try omega) _ | refine Below.setCell ?_ (by (try simp); try omega) _ | refine below_drewN ?_ _ | refine Below.drew ?_ | (with_reducible refine Below.trans ?_ (Below.mono (by assumption) (by (try simp); try omega)))))
      have bK : Bx (u7.alloc (.cells #[.bool pK, .slice aKx nKx kKx] 24)) (u7.heap.size) (.bool pK) (.slice aKx nKx kKx) 24 := by exact (Bx.new u7 (.bool pK) (.slice aKx nKx kKx) 24)
      have gebK : w.heap.size ≤ u7.heap.size := by have := hB.size; omega
      have ltbAbK : gbA < u7.heap.size := by have := bA.lt; omega
      have ltbBbK : gbB < u7.heap.size := by have := bB.lt; omega
      have ltbCbK : gbC < u7.heap.size := by have := bC.lt; omega
      have ltbSbK : gbS < u7.heap.size := by have := bS.lt; omega
      have ltbRbK : gbR < u7.heap.size := by have := bR.lt; omega
      replace PB := PB.keep hX
      replace WD := WD.keep hX
      replace LX := LX.keep hX
      replace LY := LY.keep hX
      replace LC := LC.keep hX
      replace LS := LS.keep hX
      replace LR := LR.keep hX
      replace LK := LK.keep hX
      replace bA := bA.keep hX
      replace bB := bB.keep hX
      replace bC := bC.keep hX
      replace bS := bS.keep hX
      replace bR := bR.keep hX
      replace e0 := lkeep hX e0
      replace e1 := lkeep hX e1
      replace e2 := lkeep hX e2
      replace hB := hB.trans (hX.mono hB.size)
      clear hX
      generalize (u7.alloc (.cells #[.bool pK, .slice aKx nKx kKx] 24)) = v8 at *
      generalize u7.heap.size = gbK at *
      go_at_call 27
      refine (same_lg _ _ s _ LS LR (by omega)).mono ?_
      rintro e u9 ⟨rfl, hb⟩
      have hk : Below v8.heap.size v8 u9 := by (repeat (first | with_reducible exact Below.refl _ _ | with_reducible assumption | refine Below.alloc ?_ (by (try simp); try omega) _ | refine Below.setCell ?_ (by (try simp); try omega) _ | refine below_drewN ?_ _ | refine Below.drew ?_ | (with_reducible refine Below.trans ?_ (Below.mono (by assumption) (by (try simp); try omega)))))
      clear hb
      replace PB := PB.keep hk
      replace WD := WD.keep hk
      replace LX := LX.keep hk
      replace LY := LY.keep hk
      replace LC := LC.keep hk
      replace LS := LS.keep hk
      replace LR := LR.keep hk
      replace LK := LK.keep hk
      replace bA := bA.keep hk
      replace bB := bB.keep hk
      replace bC := bC.keep hk
      replace bS := bS.keep hk
      replace bR := bR.keep hk
      replace bK := bK.keep hk
      replace e0 := lkeep hk e0
      replace e1 := lkeep hk e1
      replace e2 := lkeep hk e2
      replace hB := hB.trans (hk.mono hB.size)
      clear hk
      clear LR bR
      have rbK0 : u9.cell? ⟨gbK, 0, none⟩ = some (.bool pK) := bK.c0
      have rbK1 : u9.cell? ⟨gbK, 1, none⟩ = some (.slice aKx nKx kKx) := bK.c1
      have rbA0 : u9.cell? ⟨gbA, 0, none⟩ = some (.bool p) := bA.c0
      have rbA1 : u9.cell? ⟨gbA, 1, none⟩ = some (.slice a0 n0 j0) := bA.c1
      go_wp2_with fail
      clear rbK0 rbK1 rbA0 rbA1
      go_at_call 27
      refine (same_lg _ _ x _ LK LX (by omega)).mono ?_
      rintro e u10 ⟨rfl, hb⟩
      have hk : Below u9.heap.size u9 u10 := by (repeat (first | with_reducible exact Below.refl _ _ | with_reducible assumption | refine Below.alloc ?_ (by (try simp); try omega) _ | refine Below.setCell ?_ (by (try simp); try omega) _ | refine below_drewN ?_ _ | refine Below.drew ?_ | (with_reducible refine Below.trans ?_ (Below.mono (by assumption) (by (try simp); try omega)))))
      clear hb
      replace PB := PB.keep hk
      replace WD := WD.keep hk
      replace LX := LX.keep hk
      replace LY := LY.keep hk
      replace LC := LC.keep hk
      replace LS := LS.keep hk
      replace LK := LK.keep hk
      replace bA := bA.keep hk
      replace bB := bB.keep hk
      replace bC := bC.keep hk
      replace bS := bS.keep hk
      replace bK := bK.keep hk
      replace e0 := lkeep hk e0
      replace e1 := lkeep hk e1
      replace e2 := lkeep hk e2
      replace hB := hB.trans (hk.mono hB.size)
      clear hk
      clear LK bK
      have rbA0 : u10.cell? ⟨gbA, 0, none⟩ = some (.bool p) := bA.c0
      have rbA1 : u10.cell? ⟨gbA, 1, none⟩ = some (.slice a0 n0 j0) := bA.c1
      have rbC0 : u10.cell? ⟨gbC, 0, none⟩ = some (.bool pC) := bC.c0
      have rbC1 : u10.cell? ⟨gbC, 1, none⟩ = some (.slice aC nC kC) := bC.c1
      go_wp2_with fail
      clear rbA0 rbA1 rbC0 rbC1
      go_at_call 36
      refine (mul_okE _ _ x z zz1 _ LX LC (by omega) (by omega) H1.out (by omega)).mono ?_
      rintro e u11 ⟨⟨pP, aPx, nPx, kPx, rfl, LP⟩, hb⟩
      have hk : Below u10.heap.size u10 u11 := by (repeat (first | with_reducible exact Below.refl _ _ | with_reducible assumption | refine Below.alloc ?_ (by (try simp); try omega) _ | refine Below.setCell ?_ (by (try simp); try omega) _ | refine below_drewN ?_ _ | refine Below.drew ?_ | (with_reducible refine Below.trans ?_ (Below.mono (by assumption) (by (try simp); try omega)))))
      clear hb
      replace PB := PB.keep hk
      replace WD := WD.keep hk
      replace LX := LX.keep hk
      replace LY := LY.keep hk
      replace LC := LC.keep hk
      replace LS := LS.keep hk
      replace bA := bA.keep hk
      replace bB := bB.keep hk
      replace bC := bC.keep hk
      replace bS := bS.keep hk
      replace e0 := lkeep hk e0
      replace e1 := lkeep hk e1
      replace e2 := lkeep hk e2
      replace hB := hB.trans (hk.mono hB.size)
      clear hk
      clear LX bA
      have rbB0 : (u11.alloc (.cells #[.bool pP, .slice aPx nPx kPx] 24)).cell? ⟨gbB, 0, none⟩ = some (.bool p') := (bB.alloc _).c0
      have rbB1 : (u11.alloc (.cells #[.bool pP, .slice aPx nPx kPx] 24)).cell? ⟨gbB, 1, none⟩ = some (.slice a1 n1 j1) := (bB.alloc _).c1
      have rbC0 : (u11.alloc (.cells #[.bool pP, .slice aPx nPx kPx] 24)).cell? ⟨gbC, 0, none⟩ = some (.bool pC) := (bC.alloc _).c0
      have rbC1 : (u11.alloc (.cells #[.bool pP, .slice aPx nPx kPx] 24)).cell? ⟨gbC, 1, none⟩ = some (.slice aC nC kC) := (bC.alloc _).c1
      go_wp2_with fail
      clear rbB0 rbB1 rbC0 rbC1
      have hX : Below u11.heap.size u11 (u11.alloc (.cells #[.bool pP, .slice aPx nPx kPx] 24)) := by (repeat (first | with_reducible exact Below.refl _ _ | with_reducible assumption | refine Below.alloc ?_ (by (try simp); try omega) _ | refine Below.setCell ?_ (by (try simp); try omega) _ | refine below_drewN ?_ _ | refine Below.drew ?_ | (with_reducible refine Below.trans ?_ (Below.mono (by assumption) (by (try simp); try omega)))))
      have bP : Bx (u11.alloc (.cells #[.bool pP, .slice aPx nPx kPx] 24)) (u11.heap.size) (.bool pP) (.slice aPx nPx kPx) 24 := by exact (Bx.new u11 (.bool pP) (.slice aPx nPx kPx) 24)
      have gebP : w.heap.size ≤ u11.heap.size := by have := hB.size; omega
      have ltbBbP : gbB < u11.heap.size := by have := bB.lt; omega
      have ltbCbP : gbC < u11.heap.size := by have := bC.lt; omega
      have ltbSbP : gbS < u11.heap.size := by have := bS.lt; omega
      replace PB := PB.keep hX
      replace WD := WD.keep hX
      replace LY := LY.keep hX
      replace LC := LC.keep hX
      replace LS := LS.keep hX
      replace LP := LP.keep hX
      replace bB := bB.keep hX
      replace bC := bC.keep hX
      replace bS := bS.keep hX
      replace e0 := lkeep hX e0
      replace e1 := lkeep hX e1
      replace e2 := lkeep hX e2
      replace hB := hB.trans (hX.mono hB.size)
      clear hX
      generalize (u11.alloc (.cells #[.bool pP, .slice aPx nPx kPx] 24)) = v12 at *
      generalize u11.heap.size = gbP at *
      go_at_call 36
      refine (mul_okE _ _ y z zz2 _ LY LC (by omega) (by omega) H2.out (by omega)).mono ?_
      rintro e u13 ⟨⟨pQ, aQx, nQx, kQx, rfl, LQ⟩, hb⟩
      have hk : Below v12.heap.size v12 u13 := by (repeat (first | with_reducible exact Below.refl _ _ | with_reducible assumption | refine Below.alloc ?_ (by (try simp); try omega) _ | refine Below.setCell ?_ (by (try simp); try omega) _ | refine below_drewN ?_ _ | refine Below.drew ?_ | (with_reducible refine Below.trans ?_ (Below.mono (by assumption) (by (try simp); try omega)))))
      clear hb
      replace PB := PB.keep hk
      replace WD := WD.keep hk
      replace LY := LY.keep hk
      replace LC := LC.keep hk
      replace LS := LS.keep hk
      replace LP := LP.keep hk
      replace bB := bB.keep hk
      replace bC := bC.keep hk
      replace bS := bS.keep hk
      replace bP := bP.keep hk
      replace e0 := lkeep hk e0
      replace e1 := lkeep hk e1
      replace e2 := lkeep hk e2
      replace hB := hB.trans (hk.mono hB.size)
      clear hk
      clear LY bB
      have rbC0 : (u13.alloc (.cells #[.bool pQ, .slice aQx nQx kQx] 24)).cell? ⟨gbC, 0, none⟩ = some (.bool pC) := (bC.alloc _).c0
      have rbC1 : (u13.alloc (.cells #[.bool pQ, .slice aQx nQx kQx] 24)).cell? ⟨gbC, 1, none⟩ = some (.slice aC nC kC) := (bC.alloc _).c1
      have rbS0 : (u13.alloc (.cells #[.bool pQ, .slice aQx nQx kQx] 24)).cell? ⟨gbS, 0, none⟩ = some (.bool pS) := (bS.alloc _).c0
      have rbS1 : (u13.alloc (.cells #[.bool pQ, .slice aQx nQx kQx] 24)).cell? ⟨gbS, 1, none⟩ = some (.slice aSx nSx kSx) := (bS.alloc _).c1
      go_wp2_with fail
      clear rbC0 rbC1 rbS0 rbS1
      have hX : Below u13.heap.size u13 (u13.alloc (.cells #[.bool pQ, .slice aQx nQx kQx] 24)) := by (repeat (first | with_reducible exact Below.refl _ _ | with_reducible assumption | refine Below.alloc ?_ (by (try simp); try omega) _ | refine Below.setCell ?_ (by (try simp); try omega) _ | refine below_drewN ?_ _ | refine Below.drew ?_ | (with_reducible refine Below.trans ?_ (Below.mono (by assumption) (by (try simp); try omega)))))
      have bQ : Bx (u13.alloc (.cells #[.bool pQ, .slice aQx nQx kQx] 24)) (u13.heap.size) (.bool pQ) (.slice aQx nQx kQx) 24 := by exact (Bx.new u13 (.bool pQ) (.slice aQx nQx kQx) 24)
      have gebQ : w.heap.size ≤ u13.heap.size := by have := hB.size; omega
      have ltbCbQ : gbC < u13.heap.size := by have := bC.lt; omega
      have ltbSbQ : gbS < u13.heap.size := by have := bS.lt; omega
      have ltbPbQ : gbP < u13.heap.size := by have := bP.lt; omega
      replace PB := PB.keep hX
      replace WD := WD.keep hX
      replace LC := LC.keep hX
      replace LS := LS.keep hX
      replace LP := LP.keep hX
      replace LQ := LQ.keep hX
      replace bC := bC.keep hX
      replace bS := bS.keep hX
      replace bP := bP.keep hX
      replace e0 := lkeep hX e0
      replace e1 := lkeep hX e1
      replace e2 := lkeep hX e2
      replace hB := hB.trans (hX.mono hB.size)
      clear hX
      generalize (u13.alloc (.cells #[.bool pQ, .slice aQx nQx kQx] 24)) = v14 at *
      generalize u13.heap.size = gbQ at *
      go_at_call 36
      refine (mul_okE _ _ z s zz3 _ LC LS (by omega) (by omega) H3.out (by omega)).mono ?_
      rintro e u15 ⟨⟨pT, aTx, nTx, kTx, rfl, LT⟩, hb⟩
      have hk : Below v14.heap.size v14 u15 := by (repeat (first | with_reducible exact Below.refl _ _ | with_reducible assumption | refine Below.alloc ?_ (by (try simp); try omega) _ | refine Below.setCell ?_ (by (try simp); try omega) _ | refine below_drewN ?_ _ | refine Below.drew ?_ | (with_reducible refine Below.trans ?_ (Below.mono (by assumption) (by (try simp); try omega)))))
      clear hb
      replace PB := PB.keep hk
      replace WD := WD.keep hk
      replace LC := LC.keep hk
      replace LS := LS.keep hk
      replace LP := LP.keep hk
      replace LQ := LQ.keep hk
      replace bC := bC.keep hk
      replace bS := bS.keep hk
      replace bP := bP.keep hk
      replace bQ := bQ.keep hk
      replace e0 := lkeep hk e0
      replace e1 := lkeep hk e1
      replace e2 := lkeep hk e2
      replace hB := hB.trans (hk.mono hB.size)
      clear hk
      clear LC bC LS bS
      have rbP0 : (u15.alloc (.cells #[.bool pT, .slice aTx nTx kTx] 24)).cell? ⟨gbP, 0, none⟩ = some (.bool pP) := (bP.alloc _).c0
      have rbP1 : (u15.alloc (.cells #[.bool pT, .slice aTx nTx kTx] 24)).cell? ⟨gbP, 1, none⟩ = some (.slice aPx nPx kPx) := (bP.alloc _).c1
      have rbQ0 : (u15.alloc (.cells #[.bool pT, .slice aTx nTx kTx] 24)).cell? ⟨gbQ, 0, none⟩ = some (.bool pQ) := (bQ.alloc _).c0
      have rbQ1 : (u15.alloc (.cells #[.bool pT, .slice aTx nTx kTx] 24)).cell? ⟨gbQ, 1, none⟩ = some (.slice aQx nQx kQx) := (bQ.alloc _).c1
      go_wp2_with fail
      clear rbP0 rbP1 rbQ0 rbQ1
      have hX : Below u15.heap.size u15 (u15.alloc (.cells #[.bool pT, .slice aTx nTx kTx] 24)) := by (repeat (first | with_reducible exact Below.refl _ _ | with_reducible assumption | refine Below.alloc ?_ (by (try simp); try omega) _ | refine Below.setCell ?_ (by (try simp); try omega) _ | refine below_drewN ?_ _ | refine Below.drew ?_ | (with_reducible refine Below.trans ?_ (Below.mono (by assumption) (by (try simp); try omega)))))
      have bT : Bx (u15.alloc (.cells #[.bool pT, .slice aTx nTx kTx] 24)) (u15.heap.size) (.bool pT) (.slice aTx nTx kTx) 24 := by exact (Bx.new u15 (.bool pT) (.slice aTx nTx kTx) 24)
      have gebT : w.heap.size ≤ u15.heap.size := by have := hB.size; omega
      have ltbPbT : gbP < u15.heap.size := by have := bP.lt; omega
      have ltbQbT : gbQ < u15.heap.size := by have := bQ.lt; omega
      replace PB := PB.keep hX
      replace WD := WD.keep hX
      replace LP := LP.keep hX
      replace LQ := LQ.keep hX
      replace LT := LT.keep hX
      replace bP := bP.keep hX
      replace bQ := bQ.keep hX
      replace e0 := lkeep hX e0
      replace e1 := lkeep hX e1
      replace e2 := lkeep hX e2
      replace hB := hB.trans (hX.mono hB.size)
      clear hX
      generalize (u15.alloc (.cells #[.bool pT, .slice aTx nTx kTx] 24)) = v16 at *
      generalize u15.heap.size = gbT at *
      go_at_call 29
      refine (add_okE _ _ zz1 zz2 zz3 _ LP LQ (by omega) (by omega) E3.out (by omega)).mono ?_
      rintro e u17 ⟨⟨pU, aUx, nUx, kUx, rfl, LU⟩, hb⟩
      have hk : Below v16.heap.size v16 u17 := by (repeat (first | with_reducible exact Below.refl _ _ | with_reducible assumption | refine Below.alloc ?_ (by (try simp); try omega) _ | refine Below.setCell ?_ (by (try simp); try omega) _ | refine below_drewN ?_ _ | refine Below.drew ?_ | (with_reducible refine Below.trans ?_ (Below.mono (by assumption) (by (try simp); try omega)))))
      clear hb
      replace PB := PB.keep hk
      replace WD := WD.keep hk
      replace LP := LP.keep hk
      replace LQ := LQ.keep hk
      replace LT := LT.keep hk
      replace bP := bP.keep hk
      replace bQ := bQ.keep hk
      replace bT := bT.keep hk
      replace e0 := lkeep hk e0
      replace e1 := lkeep hk e1
      replace e2 := lkeep hk e2
      replace hB := hB.trans (hk.mono hB.size)
      clear hk
      clear LP bP LQ bQ
      have rbT0 : (u17.alloc (.cells #[.bool pU, .slice aUx nUx kUx] 24)).cell? ⟨gbT, 0, none⟩ = some (.bool pT) := (bT.alloc _).c0
      have rbT1 : (u17.alloc (.cells #[.bool pU, .slice aUx nUx kUx] 24)).cell? ⟨gbT, 1, none⟩ = some (.slice aTx nTx kTx) := (bT.alloc _).c1
      go_wp2_with fail
      clear rbT0 rbT1
      have hX : Below u17.heap.size u17 (u17.alloc (.cells #[.bool pU, .slice aUx nUx kUx] 24)) := by (repeat (first | with_reducible exact Below.refl _ _ | with_reducible assumption | refine Below.alloc ?_ (by (try simp); try omega) _ | refine Below.setCell ?_ (by (try simp); try omega) _ | refine below_drewN ?_ _ | refine Below.drew ?_ | (with_reducible refine Below.trans ?_ (Below.mono (by assumption) (by (try simp); try omega)))))
      have bU : Bx (u17.alloc (.cells #[.bool pU, .slice aUx nUx kUx] 24)) (u17.heap.size) (.bool pU) (.slice aUx nUx kUx) 24 := by exact (Bx.new u17 (.bool pU) (.slice aUx nUx kUx) 24)
      have gebU : w.heap.size ≤ u17.heap.size := by have := hB.size; omega
      have ltbTbU : gbT < u17.heap.size := by have := bT.lt; omega
      replace PB := PB.keep hX
      replace WD := WD.keep hX
      replace LT := LT.keep hX
      replace LU := LU.keep hX
      replace bT := bT.keep hX
      replace e0 := lkeep hX e0
      replace e1 := lkeep hX e1
      replace e2 := lkeep hX e2
      replace hB := hB.trans (hX.mono hB.size)
      clear hX
      generalize (u17.alloc (.cells #[.bool pU, .slice aUx nUx kUx] 24)) = v18 at *
      generalize u17.heap.size = gbU at *
      go_at_call 27
      refine (same_lg _ _ zz3 _ LU LT (by omega)).mono ?_
      rintro e u19 ⟨rfl, hb⟩
      have hk : Below v18.heap.size v18 u19 := by (repeat (first | with_reducible exact Below.refl _ _ | with_reducible assumption | refine Below.alloc ?_ (by (try simp); try omega) _ | refine Below.setCell ?_ (by (try simp); try omega) _ | refine below_drewN ?_ _ | refine Below.drew ?_ | (with_reducible refine Below.trans ?_ (Below.mono (by assumption) (by (try simp); try omega)))))
      clear hb
      replace PB := PB.keep hk
      replace WD := WD.keep hk
      replace LT := LT.keep hk
      replace LU := LU.keep hk
      replace bT := bT.keep hk
      replace bU := bU.keep hk
      replace e0 := lkeep hk e0
      replace e1 := lkeep hk e1
      replace e2 := lkeep hk e2
      replace hB := hB.trans (hk.mono hB.size)
      clear hk
      clear LT LU bT bU
      go_wp2
      go_roundw
      case rel => exact ⟨k + 1, by simp, hk1, PB, WD, ⟨e0, e1, e2⟩, hB⟩
      case measure => simp [intOf]; omega
end Go.Proofs.YtoppdbgodceaiaaDoor
