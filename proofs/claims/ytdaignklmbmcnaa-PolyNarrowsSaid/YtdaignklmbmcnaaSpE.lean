/-
  Package span: overEnds: the least and the greatest of the results at the ends, or the first error.
-/
import Derived.Test.YtdaignklmbmcnaaSpD
import Derived.Laws.EntriesVeiled
import Derived.Lib.Hide
namespace Go.Proofs.Ytdaignklmbmcnaa
open Go.RowKit Go.Shelf

attribute [local go_sem] Oper.semAt_some

def lows (l : List (Int × Int × Int)) : Int := l.foldl (fun m x => min m x.1) 9223372036854775807
def highs (l : List (Int × Int × Int)) : Int := l.foldl (fun m x => max m x.2.1) (-9223372036854775808)
def errOf (l : List (Int × Int × Int)) : Int := l.foldl (fun e x => if e = 0 then x.2.2 else e) 0
theorem lows_snoc (l : List (Int × Int × Int)) (x : Int × Int × Int) : lows (l ++ [x]) = min (lows l) x.1 := by simp [lows]
theorem highs_snoc (l : List (Int × Int × Int)) (x : Int × Int × Int) : highs (l ++ [x]) = max (highs l) x.2.1 := by simp [highs]
theorem errOf_snoc (l : List (Int × Int × Int)) (x : Int × Int × Int) : errOf (l ++ [x]) = if errOf l = 0 then x.2.2 else errOf l := by unfold errOf; rw [List.foldl_append]; rfl
theorem errOf_more (l m : List (Int × Int × Int)) (h : errOf l ≠ 0) : errOf (l ++ m) = errOf l := by
  induction m generalizing l with
  | nil => simp
  | cons x m ih =>
    have e : errOf (l ++ [x]) = errOf l := by rw [errOf_snoc, if_neg h]
    have := ih (l ++ [x]) (by rw [e]; exact h)
    rw [e] at this
    rw [← this]; simp
def ovR (l : List (Int × Int × Int)) : Int × Int × Int := if errOf l = 0 then (lows l, highs l, 0) else (0, 0, errOf l)

/-- What lies in memory between two rounds. -/
def OvCells (B : Nat) (lo hi e : Int) (W : World) : Prop :=
  W.cell? ⟨B + 1 + 1 + 1 + 1 + 1, 0, none⟩ = some (.int .i64 lo) ∧ W.cell? ⟨B + 1 + 1 + 1 + 1 + 1, 1, none⟩ = some (.int .i64 hi) ∧
  W.frozen? ⟨B + 1 + 1 + 1 + 1 + 1, 0, none⟩ = false ∧ W.frozen? ⟨B + 1 + 1 + 1 + 1 + 1, 1, none⟩ = false ∧
  W.cell? ⟨B + 1 + 1 + 1 + 1 + 1 + 1, 0, none⟩ = some (.func (.func 56) #[] #[.pointer (some ⟨B + 1 + 1 + 1 + 1 + 1, 0, none⟩)]) ∧
  W.cell? ⟨B + 1 + 1 + 1, 0, none⟩ = some (.int .i64 0) ∧ W.cell? ⟨B + 1 + 1 + 1, 1, none⟩ = some (.int .i64 0) ∧
  W.frozen? ⟨B + 1 + 1 + 1, 0, none⟩ = false ∧ W.frozen? ⟨B + 1 + 1 + 1, 1, none⟩ = false ∧
  W.cell? ⟨B + 1 + 1 + 1 + 1, 0, none⟩ = some (.int .i64 e) ∧ W.frozen? ⟨B + 1 + 1 + 1 + 1, 0, none⟩ = false
theorem OvCells.kept {B : Nat} {lo hi e : Int} {A W : World} {row : Option Nat} (h : OvCells B lo hi e A) (hg : A.grownBy W row) (hr : ∀ r, row = some r → ∃ o : Obj, A.heap[r]? = some o ∧ o.isCells = false) : OvCells B lo hi e W := by
  obtain ⟨h1, h2, h3, h4, h5, h6, h7, h8, h9, h10, h11⟩ := h
  exact ⟨cell_kept h1 hg hr, cell_kept h2 hg hr, (frozen_kept h1 hg hr).trans h3, (frozen_kept h2 hg hr).trans h4, cell_kept h5 hg hr, cell_kept h6 hg hr, cell_kept h7 hg hr, (frozen_kept h6 hg hr).trans h8, (frozen_kept h7 hg hr).trans h9, cell_kept h10 hg hr, (frozen_kept h10 hg hr).trans h11⟩

theorem OvCells.err {B : Nat} {lo hi e : Int} {W : World} (h : OvCells B lo hi e W) (r0 r1 e' : Int) :
    W.cell? ⟨B + 1 + 1 + 1, 0, none⟩ = some (.int .i64 0) ∧ (((W.setCell ⟨B + 1 + 1 + 1, 0, none⟩ (.int .i64 r0)).setCell ⟨B + 1 + 1 + 1, 1, none⟩ (.int .i64 r1)).setCell ⟨B + 1 + 1 + 1 + 1, 0, none⟩ (.int .i64 e')).cell? ⟨B + 1 + 1 + 1, 0, none⟩ = some (.int .i64 r0) ∧
    (((W.setCell ⟨B + 1 + 1 + 1, 0, none⟩ (.int .i64 r0)).setCell ⟨B + 1 + 1 + 1, 1, none⟩ (.int .i64 r1)).setCell ⟨B + 1 + 1 + 1 + 1, 0, none⟩ (.int .i64 e')).cell? ⟨B + 1 + 1 + 1, 1, none⟩ = some (.int .i64 r1) ∧
    (((W.setCell ⟨B + 1 + 1 + 1, 0, none⟩ (.int .i64 r0)).setCell ⟨B + 1 + 1 + 1, 1, none⟩ (.int .i64 r1)).setCell ⟨B + 1 + 1 + 1 + 1, 0, none⟩ (.int .i64 e')).cell? ⟨B + 1 + 1 + 1 + 1, 0, none⟩ = some (.int .i64 e') := by
  obtain ⟨h1, h2, h3, h4, h5, h6, h7, h8, h9, h10, h11⟩ := h
  refine ⟨h6, ?_, ?_, ?_⟩ <;> simp [go_sem, h6, h7, h10]
theorem OvCells.set {B : Nat} {lo hi e : Int} {W : World} (h : OvCells B lo hi e W) (lo' hi' : Int) : OvCells B lo' hi' e ((W.setCell ⟨B + 1 + 1 + 1 + 1 + 1, 0, none⟩ (.int .i64 lo')).setCell ⟨B + 1 + 1 + 1 + 1 + 1, 1, none⟩ (.int .i64 hi')) := by
  obtain ⟨h1, h2, h3, h4, h5, h6, h7, h8, h9, h10, h11⟩ := h
  refine ⟨?_, ?_, ?_, ?_, ?_, ?_, ?_, ?_, ?_, ?_, ?_⟩ <;> simp [go_sem, h1, h2, h3, h4, h5, h6, h7, h8, h9, h10, h11]
theorem OvCells.alloc {B : Nat} {lo hi e : Int} {W : World} (h : OvCells B lo hi e W) (o : Obj) : OvCells B lo hi e (W.alloc o) := h.kept (World.grownBy_alloc W o none) (fun r e => by cases e)

/-- Three blocks stay as they are: those that the iterator reads. -/
def KeepBlk (lo hi : Nat) (W W' : World) : Prop := ∀ k, lo ≤ k → k < hi → W'.heap[k]? = W.heap[k]?
theorem KeepBlk.refl (lo hi : Nat) (W : World) : KeepBlk lo hi W W := fun _ _ _ => rfl
theorem KeepBlk.trans {lo hi : Nat} {A B C : World} (h : KeepBlk lo hi A B) (k : KeepBlk lo hi B C) : KeepBlk lo hi A C := fun i a b => (k i a b).trans (h i a b)
theorem KeepBlk.setCell {lo hi : Nat} {A B : World} (h : KeepBlk lo hi A B) (p : Addr) (v : Value) (hp : p.block < lo) : KeepBlk lo hi A (B.setCell p v) := fun i a b => (Below.heap_setCell _ _ _ i (by omega)).trans (h i a b)
theorem KeepBlk.alloc {lo hi : Nat} {A B : World} (h : KeepBlk lo hi A B) (o : Obj) (hs : hi ≤ B.heap.size) : KeepBlk lo hi A (B.alloc o) := fun i a b => (Below.heap_alloc _ _ i (by omega)).trans (h i a b)

/-- What holds between two rounds; and when a round has left the loop. -/
def OvI (w : World) (pre : List (Int × Int × Int)) (W : World) : Prop := errOf pre = 0 ∧ OvCells w.heap.size (lows pre) (highs pre) 0 W ∧ Below w.heap.size w W ∧ w.heap.size + 10 ≤ W.heap.size
def OvX (w : World) (c : Code) (pre : List (Int × Int × Int)) (W : World) : Prop := c = .ret ∧ errOf pre ≠ 0 ∧ (W.cell? ⟨w.heap.size + 1 + 1 + 1, 0, none⟩ = some (.int .i64 0) ∧ W.cell? ⟨w.heap.size + 1 + 1 + 1, 1, none⟩ = some (.int .i64 0) ∧ W.cell? ⟨w.heap.size + 1 + 1 + 1 + 1, 0, none⟩ = some (.int .i64 (errOf pre))) ∧ Below w.heap.size w W ∧ w.heap.size + 10 ≤ W.heap.size

set_option maxRecDepth 100000 in
set_option maxHeartbeats 4000000 in
theorem overEnds_any (g1 g2 : Nat) (f : Int → Int → Int × Int × Int)
    (hat : ∀ (x y : Int) (w : World), Calls Try.prog 71 #[.agg #[.func (.func g1) #[] #[], .func (.func g2) #[] #[]], .int .i64 x, .int .i64 y] w fun e w' => e = .returned (.tuple #[.agg #[.int .i64 (f x y).1, .int .i64 (f x y).2.1], .int .i64 (f x y).2.2]) ∧ Below w.heap.size w w')
    (a b c d : Int) (w : World) :
    Calls Try.prog 39 #[.agg #[.func (.func g1) #[] #[], .func (.func g2) #[] #[]], .agg #[.int .i64 a, .int .i64 b], .agg #[.int .i64 c, .int .i64 d]] w fun e w' =>
      e = .returned (.tuple #[.agg #[.int .i64 (ovR (four f a b c d)).1, .int .i64 (ovR (four f a b c d)).2.1], .int .i64 (ovR (four f a b c d)).2.2]) ∧ Below w.heap.size w w' := by
  have hmf : ∀ (fn : Fn) (first cap : Array Value) (w : World), (Instr.makeFunc fn first cap).run Try.prog w = .ok (.func fn first cap) w := fun _ _ _ _ => rfl
  refine (callsIn_wide (n := 6)).1 ?_
  refine callsIn_of_wp_marks Try.func39 rfl trivial ?_ rfl
  simp only [Try.ntmps39, List.size_toArray, List.length_cons, List.length_nil, Nat.reduceAdd, Nat.reduceSub, Array.replicate_succ, Array.replicate_zero, List.push_toArray, List.append_toArray, List.nil_append, List.cons_append]
  gi_wp2_with (refine ⟨trivial, ?_⟩; gi_at_call 57; refine (callsIn_wide.2 (results_any _ _ _ _ _ _ _)).mono ?_; rintro e w' ⟨rfl, rfl⟩)
  have hB0 : Below w.heap.size w ((((((((((w.alloc (.cells #[.func (.func g1) #[] #[], .func (.func g2) #[] #[]] 63)).alloc (.cells #[.int .i64 a, .int .i64 b] 24)).alloc (.cells #[.int .i64 c, .int .i64 d] 24)).alloc (.cells #[.int .i64 0, .int .i64 0] 24)).alloc (.cells #[.int .i64 0] 35)).alloc (.cells #[.int .i64 9223372036854775807, .int .i64 (-9223372036854775808)] 80)).alloc (.cells #[.func (.func 56) #[] #[.pointer (some ⟨w.heap.size + 1 + 1 + 1 + 1 + 1, 0, none⟩)]] 81)).alloc (.cells #[.func (.func g1) #[] #[], .func (.func g2) #[] #[]] 63)).alloc (.cells #[.int .i64 a, .int .i64 b] 24)).alloc (.cells #[.int .i64 c, .int .i64 d] 24)) := by (repeat (first | with_reducible exact Below.refl _ _ | with_reducible assumption | refine Below.alloc ?_ (by (try simp); try omega) _ | refine Below.setCell ?_ (by (try simp); try omega) _ | refine below_drewN ?_ _ | refine Below.drew ?_ | (with_reducible refine Below.trans ?_ (Below.mono (by assumption) (by (try simp); try omega)))))
  have hsz : ((((((((((w.alloc (.cells #[.func (.func g1) #[] #[], .func (.func g2) #[] #[]] 63)).alloc (.cells #[.int .i64 a, .int .i64 b] 24)).alloc (.cells #[.int .i64 c, .int .i64 d] 24)).alloc (.cells #[.int .i64 0, .int .i64 0] 24)).alloc (.cells #[.int .i64 0] 35)).alloc (.cells #[.int .i64 9223372036854775807, .int .i64 (-9223372036854775808)] 80)).alloc (.cells #[.func (.func 56) #[] #[.pointer (some ⟨w.heap.size + 1 + 1 + 1 + 1 + 1, 0, none⟩)]] 81)).alloc (.cells #[.func (.func g1) #[] #[], .func (.func g2) #[] #[]] 63)).alloc (.cells #[.int .i64 a, .int .i64 b] 24)).alloc (.cells #[.int .i64 c, .int .i64 d] 24)).heap.size = w.heap.size + 10 := by simp
  have I0 : OvCells w.heap.size 9223372036854775807 (-9223372036854775808) 0 ((((((((((w.alloc (.cells #[.func (.func g1) #[] #[], .func (.func g2) #[] #[]] 63)).alloc (.cells #[.int .i64 a, .int .i64 b] 24)).alloc (.cells #[.int .i64 c, .int .i64 d] 24)).alloc (.cells #[.int .i64 0, .int .i64 0] 24)).alloc (.cells #[.int .i64 0] 35)).alloc (.cells #[.int .i64 9223372036854775807, .int .i64 (-9223372036854775808)] 80)).alloc (.cells #[.func (.func 56) #[] #[.pointer (some ⟨w.heap.size + 1 + 1 + 1 + 1 + 1, 0, none⟩)]] 81)).alloc (.cells #[.func (.func g1) #[] #[], .func (.func g2) #[] #[]] 63)).alloc (.cells #[.int .i64 a, .int .i64 b] 24)).alloc (.cells #[.int .i64 c, .int .i64 d] 24)) := by
    refine ⟨?_, ?_, ?_, ?_, ?_, ?_, ?_, ?_, ?_, ?_, ?_⟩ <;> simp [go_sem]
  have ca : ((((((((((w.alloc (.cells #[.func (.func g1) #[] #[], .func (.func g2) #[] #[]] 63)).alloc (.cells #[.int .i64 a, .int .i64 b] 24)).alloc (.cells #[.int .i64 c, .int .i64 d] 24)).alloc (.cells #[.int .i64 0, .int .i64 0] 24)).alloc (.cells #[.int .i64 0] 35)).alloc (.cells #[.int .i64 9223372036854775807, .int .i64 (-9223372036854775808)] 80)).alloc (.cells #[.func (.func 56) #[] #[.pointer (some ⟨w.heap.size + 1 + 1 + 1 + 1 + 1, 0, none⟩)]] 81)).alloc (.cells #[.func (.func g1) #[] #[], .func (.func g2) #[] #[]] 63)).alloc (.cells #[.int .i64 a, .int .i64 b] 24)).alloc (.cells #[.int .i64 c, .int .i64 d] 24)).cell? ⟨w.heap.size + 1 + 1 + 1 + 1 + 1 + 1 + 1 + 1, 0, none⟩ = some (.int .i64 a) := by simp [go_sem]
  have cb : ((((((((((w.alloc (.cells #[.func (.func g1) #[] #[], .func (.func g2) #[] #[]] 63)).alloc (.cells #[.int .i64 a, .int .i64 b] 24)).alloc (.cells #[.int .i64 c, .int .i64 d] 24)).alloc (.cells #[.int .i64 0, .int .i64 0] 24)).alloc (.cells #[.int .i64 0] 35)).alloc (.cells #[.int .i64 9223372036854775807, .int .i64 (-9223372036854775808)] 80)).alloc (.cells #[.func (.func 56) #[] #[.pointer (some ⟨w.heap.size + 1 + 1 + 1 + 1 + 1, 0, none⟩)]] 81)).alloc (.cells #[.func (.func g1) #[] #[], .func (.func g2) #[] #[]] 63)).alloc (.cells #[.int .i64 a, .int .i64 b] 24)).alloc (.cells #[.int .i64 c, .int .i64 d] 24)).cell? ⟨w.heap.size + 1 + 1 + 1 + 1 + 1 + 1 + 1 + 1, 1, none⟩ = some (.int .i64 b) := by simp [go_sem]
  have cc : ((((((((((w.alloc (.cells #[.func (.func g1) #[] #[], .func (.func g2) #[] #[]] 63)).alloc (.cells #[.int .i64 a, .int .i64 b] 24)).alloc (.cells #[.int .i64 c, .int .i64 d] 24)).alloc (.cells #[.int .i64 0, .int .i64 0] 24)).alloc (.cells #[.int .i64 0] 35)).alloc (.cells #[.int .i64 9223372036854775807, .int .i64 (-9223372036854775808)] 80)).alloc (.cells #[.func (.func 56) #[] #[.pointer (some ⟨w.heap.size + 1 + 1 + 1 + 1 + 1, 0, none⟩)]] 81)).alloc (.cells #[.func (.func g1) #[] #[], .func (.func g2) #[] #[]] 63)).alloc (.cells #[.int .i64 a, .int .i64 b] 24)).alloc (.cells #[.int .i64 c, .int .i64 d] 24)).cell? ⟨w.heap.size + 1 + 1 + 1 + 1 + 1 + 1 + 1 + 1 + 1, 0, none⟩ = some (.int .i64 c) := by simp [go_sem]
  have cd : ((((((((((w.alloc (.cells #[.func (.func g1) #[] #[], .func (.func g2) #[] #[]] 63)).alloc (.cells #[.int .i64 a, .int .i64 b] 24)).alloc (.cells #[.int .i64 c, .int .i64 d] 24)).alloc (.cells #[.int .i64 0, .int .i64 0] 24)).alloc (.cells #[.int .i64 0] 35)).alloc (.cells #[.int .i64 9223372036854775807, .int .i64 (-9223372036854775808)] 80)).alloc (.cells #[.func (.func 56) #[] #[.pointer (some ⟨w.heap.size + 1 + 1 + 1 + 1 + 1, 0, none⟩)]] 81)).alloc (.cells #[.func (.func g1) #[] #[], .func (.func g2) #[] #[]] 63)).alloc (.cells #[.int .i64 a, .int .i64 b] 24)).alloc (.cells #[.int .i64 c, .int .i64 d] 24)).cell? ⟨w.heap.size + 1 + 1 + 1 + 1 + 1 + 1 + 1 + 1 + 1, 1, none⟩ = some (.int .i64 d) := by simp [go_sem]
  have co : ((((((((((w.alloc (.cells #[.func (.func g1) #[] #[], .func (.func g2) #[] #[]] 63)).alloc (.cells #[.int .i64 a, .int .i64 b] 24)).alloc (.cells #[.int .i64 c, .int .i64 d] 24)).alloc (.cells #[.int .i64 0, .int .i64 0] 24)).alloc (.cells #[.int .i64 0] 35)).alloc (.cells #[.int .i64 9223372036854775807, .int .i64 (-9223372036854775808)] 80)).alloc (.cells #[.func (.func 56) #[] #[.pointer (some ⟨w.heap.size + 1 + 1 + 1 + 1 + 1, 0, none⟩)]] 81)).alloc (.cells #[.func (.func g1) #[] #[], .func (.func g2) #[] #[]] 63)).alloc (.cells #[.int .i64 a, .int .i64 b] 24)).alloc (.cells #[.int .i64 c, .int .i64 d] 24)).cell? ⟨w.heap.size + 1 + 1 + 1 + 1 + 1 + 1 + 1, 0, none⟩ = some (.func (.func g1) #[] #[]) := by simp [go_sem]
  have cp : ((((((((((w.alloc (.cells #[.func (.func g1) #[] #[], .func (.func g2) #[] #[]] 63)).alloc (.cells #[.int .i64 a, .int .i64 b] 24)).alloc (.cells #[.int .i64 c, .int .i64 d] 24)).alloc (.cells #[.int .i64 0, .int .i64 0] 24)).alloc (.cells #[.int .i64 0] 35)).alloc (.cells #[.int .i64 9223372036854775807, .int .i64 (-9223372036854775808)] 80)).alloc (.cells #[.func (.func 56) #[] #[.pointer (some ⟨w.heap.size + 1 + 1 + 1 + 1 + 1, 0, none⟩)]] 81)).alloc (.cells #[.func (.func g1) #[] #[], .func (.func g2) #[] #[]] 63)).alloc (.cells #[.int .i64 a, .int .i64 b] 24)).alloc (.cells #[.int .i64 c, .int .i64 d] 24)).cell? ⟨w.heap.size + 1 + 1 + 1 + 1 + 1 + 1 + 1, 1, none⟩ = some (.func (.func g2) #[] #[]) := by simp [go_sem]
  obtain ⟨W0, hW0⟩ : ∃ W0, ((((((((((w.alloc (.cells #[.func (.func g1) #[] #[], .func (.func g2) #[] #[]] 63)).alloc (.cells #[.int .i64 a, .int .i64 b] 24)).alloc (.cells #[.int .i64 c, .int .i64 d] 24)).alloc (.cells #[.int .i64 0, .int .i64 0] 24)).alloc (.cells #[.int .i64 0] 35)).alloc (.cells #[.int .i64 9223372036854775807, .int .i64 (-9223372036854775808)] 80)).alloc (.cells #[.func (.func 56) #[] #[.pointer (some ⟨w.heap.size + 1 + 1 + 1 + 1 + 1, 0, none⟩)]] 81)).alloc (.cells #[.func (.func g1) #[] #[], .func (.func g2) #[] #[]] 63)).alloc (.cells #[.int .i64 a, .int .i64 b] 24)).alloc (.cells #[.int .i64 c, .int .i64 d] 24)) = W0 := ⟨_, rfl⟩
  rw [hW0] at hB0 hsz I0 ca cb cc cd co cp ⊢
  clear hW0 hmf
  refine wpIn_rangeFunc_ownH rfl (by omega) (gf := 70) (lb := #[.pointer (some ⟨w.heap.size + 1 + 1 + 1 + 1 + 1 + 1 + 1 + 1, 0, none⟩), .pointer (some ⟨w.heap.size + 1 + 1 + 1 + 1 + 1 + 1 + 1 + 1 + 1, 0, none⟩), .pointer (some ⟨w.heap.size + 1 + 1 + 1 + 1 + 1 + 1 + 1, 0, none⟩)]) rfl trivial (enters_of Try.func70 (by kernel_rfl) rfl)
    (encs := spEnc) (Kp := KeepBlk (w.heap.size + 7) (w.heap.size + 10)) (S := fun ys => ys = four f a b c d) (Sp := fun pre => pre <+: four f a b c d) (N := 4) (w0 := W0)
    (fun l J Jx W hW hJ _ hY h0 => res1_in (6 - 1) (by omega) g1 g2 f hat l (w.heap.size + 1 + 1 + 1 + 1 + 1 + 1 + 1 + 1) (w.heap.size + 1 + 1 + 1 + 1 + 1 + 1 + 1 + 1 + 1) (w.heap.size + 1 + 1 + 1 + 1 + 1 + 1 + 1) (KeepBlk (w.heap.size + 7) (w.heap.size + 10))
      (fun A B hk q o hq => World.cell?_of_block (hk q (by omega) (by omega))) a b c d J Jx
      (fun s A B hs hb => hJ s A B none hs (below_grown hb) (fun r e => by cases e)) hY W
      ((hW.cell (p := ⟨w.heap.size + 1 + 1 + 1 + 1 + 1 + 1 + 1 + 1, 0, none⟩) (by simp <;> omega)).trans ca) ((hW.cell (p := ⟨w.heap.size + 1 + 1 + 1 + 1 + 1 + 1 + 1 + 1, 1, none⟩) (by simp <;> omega)).trans cb) ((hW.cell (p := ⟨w.heap.size + 1 + 1 + 1 + 1 + 1 + 1 + 1 + 1 + 1, 0, none⟩) (by simp <;> omega)).trans cc) ((hW.cell (p := ⟨w.heap.size + 1 + 1 + 1 + 1 + 1 + 1 + 1 + 1 + 1, 1, none⟩) (by simp <;> omega)).trans cd)
      ((hW.cell (p := ⟨w.heap.size + 1 + 1 + 1 + 1 + 1 + 1 + 1, 0, none⟩) (by simp <;> omega)).trans co) ((hW.cell (p := ⟨w.heap.size + 1 + 1 + 1 + 1 + 1 + 1 + 1, 1, none⟩) (by simp <;> omega)).trans cp) h0)
    (fun h k => h.trans k) (fun W l o o' hl _ _ _ => fun i h1 h2 => World.putObj_heap_other (by omega)) (Below.refl _ _) (fun _ => rfl)
    (OvI w) (OvX w)
    (fun s A B row hs hg hr => ⟨hs.1, hs.2.1.kept hg (fun r e => (hr r e).2), ownFrom_below (β := Unit) (Nat.le_refl _) (by omega) () A B row hs.2.2.1 hg hr, Nat.le_trans hs.2.2.2 hg.size⟩)
    (fun c s A B row hs hg hr => ⟨hs.1, hs.2.1, ⟨cell_kept hs.2.2.1.1 hg (fun r e => (hr r e).2), cell_kept hs.2.2.1.2.1 hg (fun r e => (hr r e).2), cell_kept hs.2.2.1.2.2 hg (fun r e => (hr r e).2)⟩, ownFrom_below (β := Unit) (Nat.le_refl _) (by omega) () A B row hs.2.2.2.1 hg hr, Nat.le_trans hs.2.2.2.2 hg.size⟩)
    ⟨rfl, I0, hB0, by omega⟩
    (fun x a' W => ∃ Bx, w.heap.size + 9 < Bx ∧ W.cell? ⟨Bx, 0, none⟩ = some (.int .i64 x.1) ∧ W.cell? ⟨Bx, 1, none⟩ = some (.int .i64 x.2.1) ∧ a' = { tmps := #[.agg #[.func (.func g1) #[] #[], .func (.func g2) #[] #[]], .agg #[.int .i64 a, .int .i64 b], .agg #[.int .i64 c, .int .i64 d], .pointer (some ⟨w.heap.size, 0, none⟩), .pointer (some ⟨w.heap.size + 1, 0, none⟩), .pointer (some ⟨w.heap.size + 1 + 1, 0, none⟩), .pointer (some ⟨w.heap.size + 1 + 1 + 1, 0, none⟩), .pointer (some ⟨w.heap.size + 1 + 1 + 1 + 1, 0, none⟩), .pointer (some ⟨w.heap.size + 1 + 1 + 1 + 1 + 1, 0, none⟩), .pointer (some ⟨w.heap.size + 1 + 1 + 1 + 1 + 1 + 1, 0, none⟩), .pointer (some ⟨Bx, 0, none⟩), .int .i64 x.2.2, .agg #[.int .i64 9223372036854775807, .int .i64 (-9223372036854775808)], .func (.func 56) #[] #[.pointer (some ⟨w.heap.size + 1 + 1 + 1 + 1 + 1, 0, none⟩)], .agg #[.func (.func g1) #[] #[], .func (.func g2) #[] #[]], .agg #[.int .i64 a, .int .i64 b], .agg #[.int .i64 c, .int .i64 d], .func (.func 70) #[] #[.pointer (some ⟨w.heap.size + 1 + 1 + 1 + 1 + 1 + 1 + 1 + 1, 0, none⟩), .pointer (some ⟨w.heap.size + 1 + 1 + 1 + 1 + 1 + 1 + 1 + 1 + 1, 0, none⟩), .pointer (some ⟨w.heap.size + 1 + 1 + 1 + 1 + 1 + 1 + 1, 0, none⟩)], .agg #[.int .i64 x.1, .int .i64 x.2.1], .int .i64 x.2.2, undef, undef, undef, undef, undef, undef, undef, undef, undef, undef, undef, undef], defers := [] })
    (fun x a' _ X Y row hs hg hr => by obtain ⟨Bx, h1, h2, h3, h4⟩ := hs; exact ⟨Bx, h1, cell_kept h2 hg (fun r e => (hr r e).2), cell_kept h3 hg (fun r e => (hr r e).2), h4⟩)
    ?assign ?body ?done ?stop
  case assign =>
    rintro l pre x W K ⟨he, hO, hB, hs⟩ hK
    gi_wp2
    exact hK _ _ ((KeepsOthers.alloc _ _).from _) ((KeepBlk.refl _ _ W).alloc _ (by omega)) ⟨he, hO.alloc _, hB.alloc hB.size _, by simp; omega⟩ ⟨W.heap.size, by omega, by simp, by simp, rfl⟩
  case body =>
    rintro l pre x a' W hl ⟨r, hr⟩ ⟨he, hO, hB, hs⟩ ⟨Bx, hBx, bX, bY, rfl⟩ hlt
    have hO' := hO
    obtain ⟨h1, h2, h3, h4, h5, h6, h7, h8, h9, h10, h11⟩ := hO'
    have hlB := World.block_lt_of_cell? W _ bX
    simp at hlB
    have hneq : Bx ≠ w.heap.size + 1 + 1 + 1 + 1 + 1 := by omega
    clear hr
    by_cases hx : x.2.2 = 0
    · have hx' : (x.2.2 != 0) = false := by simpa using hx
      have hk := keep_any x.1 x.2.1 (lows pre) (highs pre) (w.heap.size + 1 + 1 + 1 + 1 + 1) W h1 h2 h3 h4 (lows (pre ++ [x])) (highs (pre ++ [x])) (lows_snoc pre x).symm (highs_snoc pre x).symm
      gi_wp2_with (refine ⟨trivial, ?_⟩; gi_at_call 56; refine (CallsIn.inRound l (callsIn_wide.2 hk)).mono ?_; rintro e w' ⟨⟨v, rfl⟩, rfl⟩)
      exact ⟨(((KeepsOthers.setCell _ _ _).trans (KeepsOthers.setCell _ _ _)).trans (KeepsOthers.alloc _ _)).from _, (((KeepBlk.refl _ _ W).setCell _ _ (by simp <;> omega)).setCell _ _ (by simp <;> omega)).alloc _ (by simp <;> omega), by rw [errOf_snoc, if_pos he]; exact hx, (hO.set _ _).alloc _, ((hB.setCell (by simp <;> omega) _).setCell (by simp <;> omega) _).alloc (by simp <;> omega) _, by simp; omega⟩
    · have hx' : (x.2.2 != 0) = true := by simpa using hx
      have hE := hO.err 0 0 x.2.2
      gi_wp2
      exact ⟨(((KeepsOthers.setCell _ _ _).trans (KeepsOthers.setCell _ _ _)).trans (KeepsOthers.setCell _ _ _)).from _, rfl, by rw [errOf_snoc, if_pos he]; exact hx, ⟨hE.2.1, hE.2.2.1, by rw [errOf_snoc, if_pos he]; exact hE.2.2.2⟩, ((hB.setCell (by simp <;> omega) _).setCell (by simp <;> omega) _).setCell (by simp <;> omega) _, by simp; omega⟩
  case done =>
    rintro D xs W hD rfl ⟨he, hO, hB, hs⟩ hK
    have hO' := hO
    obtain ⟨h1, h2, h3, h4, h5, h6, h7, h8, h9, h10, h11⟩ := hO'
    have hE := hO.err (lows (four f a b c d)) (highs (four f a b c d)) 0
    have hR : ovR (four f a b c d) = (lows (four f a b c d), highs (four f a b c d), 0) := by unfold ovR; rw [if_pos he]
    generalize lows (four f a b c d) = L at *
    generalize highs (four f a b c d) = H at *
    replace hR := Lib.hid hR
    gi_wp2
    have hK' := (((KeepsOthers.setCell W ⟨w.heap.size + 1 + 1 + 1, 0, none⟩ (.int .i64 L)).trans (KeepsOthers.setCell _ ⟨w.heap.size + 1 + 1 + 1, 1, none⟩ (.int .i64 H))).trans (KeepsOthers.setCell _ ⟨w.heap.size + 1 + 1 + 1 + 1, 0, none⟩ (.int .i64 0))).same D _ hK rfl
    refine ⟨by simp, .inl ⟨_, _, rfl, run_takeDeferred hK', ?_⟩⟩
    have c0 := cell_kept hE.2.1 (grownBy_putObj' _ D (.deferred none)) (fun r e => by cases e; exact ⟨_, hK', rfl⟩)
    have c1 := cell_kept hE.2.2.1 (grownBy_putObj' _ D (.deferred none)) (fun r e => by cases e; exact ⟨_, hK', rfl⟩)
    have c2 := cell_kept hE.2.2.2 (grownBy_putObj' _ D (.deferred none)) (fun r e => by cases e; exact ⟨_, hK', rfl⟩)
    exact ⟨.tuple #[.agg #[.int .i64 L, .int .i64 H], .int .i64 0], by simp [results, Try.results39, go_sem, c0, c1, c2], by rw [hR.out],
      (((hB.setCell (p := ⟨w.heap.size + 1 + 1 + 1, 0, none⟩) (by simp <;> omega) _).setCell (p := ⟨w.heap.size + 1 + 1 + 1, 1, none⟩) (by simp <;> omega) _).setCell (p := ⟨w.heap.size + 1 + 1 + 1 + 1, 0, none⟩) (by simp <;> omega) _).trans (belowK_b (w := w) (Nat.le_refl _) _ D _ _ (by omega) hK' rfl rfl)⟩
  case stop =>
    rintro D c pre W hD hSp ⟨rfl, he, ⟨h1, h2, h3⟩, hB, hs⟩ hK
    have hee : errOf (four f a b c d) = errOf pre := by
      obtain ⟨m, hm⟩ := hSp
      rw [← hm]; exact errOf_more _ _ he
    have hR := Lib.hid (show ovR (four f a b c d) = (0, 0, errOf pre) by unfold ovR; rw [hee, if_neg he])
    clear hee
    gi_wp2
    refine ⟨by simp, .inl ⟨_, _, rfl, run_takeDeferred hK, ?_⟩⟩
    have c0 := cell_kept h1 (grownBy_putObj' _ D (.deferred none)) (fun r e => by cases e; exact ⟨_, hK, rfl⟩)
    have c1 := cell_kept h2 (grownBy_putObj' _ D (.deferred none)) (fun r e => by cases e; exact ⟨_, hK, rfl⟩)
    have c2 := cell_kept h3 (grownBy_putObj' _ D (.deferred none)) (fun r e => by cases e; exact ⟨_, hK, rfl⟩)
    exact ⟨.tuple #[.agg #[.int .i64 0, .int .i64 0], .int .i64 (errOf pre)], by simp [results, Try.results39, go_sem, c0, c1, c2], by rw [hR.out], hB.trans (belowK_b (w := w) (Nat.le_refl _) _ D _ _ (by omega) hK rfl rfl)⟩

theorem overEndsMul_any (a b c d : Int) (w : World) :
    Calls Try.prog 39 #[.agg #[.func (.func 37) #[] #[], .func (.func 38) #[] #[]], .agg #[.int .i64 a, .int .i64 b], .agg #[.int .i64 c, .int .i64 d]] w fun e w' =>
      e = .returned (.tuple #[.agg #[.int .i64 (ovR (four (fun x y => atR (mulR false x y) (mulR true x y)) a b c d)).1, .int .i64 (ovR (four (fun x y => atR (mulR false x y) (mulR true x y)) a b c d)).2.1], .int .i64 (ovR (four (fun x y => atR (mulR false x y) (mulR true x y)) a b c d)).2.2]) ∧ Below w.heap.size w w' :=
  overEnds_any _ _ (fun x y => atR (mulR false x y) (mulR true x y)) (fun x y w => atMul_any x y w) a b c d w
end Go.Proofs.Ytdaignklmbmcnaa
