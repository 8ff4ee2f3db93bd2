/-
  Package poly: value.
-/
import Derived.Test.YtdaignklmbmcnaaPyB
import Derived.WalkMore
import Derived.Scope
namespace Go.Proofs.Ytdaignklmbmcnaa
open Go.RowKit Go.Shelf

attribute [local go_sem] Oper.semAt_some

section scopes
variable {P : Program} {b : Frame} {a : Act} {k : List Item} {cs : List Frame} {w : World} {Q : Exit → Act → World → Prop} {F : Fence} {n : Nat}
theorem stepR_scope {c : Code} : step P (lone (b.atR a (.code (.scope c) :: k)) cs w) = .next (lone (b.atR a (.code c :: .inScope c :: k)) cs w) :=
  step_lone_go (by simp [stepG, stepG.exec, Frame.atR])
theorem stepR_inScope {c : Code} : step P (lone (b.atR a (.inScope c :: k)) cs w) = .next (lone (b.atR a k) cs w) :=
  step_lone_go (by simp [stepG, stepG.exec, Frame.atR])
/-- A scope through which the run goes without a goto, inside a fence. -/
theorem wpIn_scope_straight {c : Code} (h : c.wpIn F n P (Exit.noGoto Q) a w) : (Code.scope c).wpIn F n P Q a w := by
  intro b k cs hro hb hr
  have h0 : (lone (b.atR a (.code (.scope c) :: k)) cs w).fenced P F := fenced_calm hb hr rfl
  obtain ⟨e, a₁, w₁, hq, harr⟩ := h b (.inScope c :: k) cs hro hb hr
  cases e with
  | normal => exact ⟨.normal, a₁, w₁, hq, .head h0 stepR_scope (StepsIn.trans harr (.one (fenced_calm hb hr rfl) stepR_inScope))⟩
  | exit id =>
    have hx : exitTo id (.inScope c :: k) = exitTo id k := by simp [exitTo]
    exact ⟨.exit id, a₁, w₁, hq, fun k' hk => .head h0 stepR_scope (harr.1 k' (by rw [hx]; exact hk)),
      fun hr' hk => let ⟨k₁, h1, h2⟩ := harr.2 hr' (by rw [hx]; exact hk); ⟨k₁, h1, .head h0 stepR_scope h2⟩⟩
  | goto l => exact hq.elim
  | ret => exact ⟨_, a₁, w₁, hq, .of_steps (.one h0 stepR_scope) harr⟩
  | panic ch => exact ⟨_, a₁, w₁, hq, .of_steps (.one h0 stepR_scope) harr⟩
  | outgrown => exact ⟨_, a₁, w₁, hq, .of_steps (.one h0 stepR_scope) harr⟩
end scopes
theorem othersBelow {W W' : World} (h : Below W.heap.size W W') : KeepsOthers W W' :=
  ⟨h.size, fun k _o hk _ => (h.block k (Array.getElem?_eq_some_iff.1 hk).1).trans hk⟩
/-- The value after so many places. -/
def hpl (l : List (Int × Int)) (x y : Int) (v : Int × Int × Int) (ks : List Nat) : Int × Int × Int := ks.foldl (fun v k => hst x y v (pf l k)) v
theorem hpl_snoc (l : List (Int × Int)) (x y : Int) (v : Int × Int × Int) (ks : List Nat) (k : Nat) : hpl l x y v (ks ++ [k]) = hst x y (hpl l x y v ks) (pf l k) := by simp [hpl]
theorem hpl_err (l : List (Int × Int)) (x y : Int) (v : Int × Int × Int) (ks : List Nat) (h : v.2.2 ≠ 0) : hpl l x y v ks = v := by
  induction ks with
  | nil => rfl
  | cons k ks ih => show hpl l x y (hst x y v (pf l k)) ks = v; rw [show hst x y v (pf l k) = v by unfold hst; rw [if_neg h]]; exact ih
theorem hpl_append (l : List (Int × Int)) (x y : Int) (v : Int × Int × Int) (ks js : List Nat) : hpl l x y v (ks ++ js) = hpl l x y (hpl l x y v ks) js := by simp [hpl]
theorem hpl_down (l : List (Int × Int)) (x y : Int) (n : Nat) (hl : l.length = n + 1) : ∀ k, k ≤ n → hpl l x y ((pf l n).1, (pf l n).2, 0) (pdown n k) = pvl x y (l.drop (n - k))
  | 0, _ => by rw [Nat.sub_zero, pvl_last x y l n hl.symm]; rfl
  | k + 1, h => by
    rw [pdown_succ, hpl_snoc, hpl_down l x y n hl k (by omega), pvl_at x y l (n - (k + 1)) (by omega), show n - (k + 1) + 1 = n - k by omega, show n - 1 - k = n - (k + 1) by omega]
theorem hpl_all (l : List (Int × Int)) (x y : Int) (n : Nat) (hl : l.length = n + 1) : hpl l x y ((pf l n).1, (pf l n).2, 0) (pdown n n) = pvl x y l := by
  rw [hpl_down l x y n hl n (Nat.le_refl _), Nat.sub_self, List.drop_zero]
theorem pdown_split (n k : Nat) (h : k ≤ n) : ∃ js, pdown n n = pdown n k ++ js := by
  obtain ⟨j, rfl⟩ : ∃ j, n = k + j := ⟨n - k, by omega⟩
  exact ⟨_, by unfold pdown; rw [List.range_add, List.map_append]⟩
/-- An error that has come stays. -/
theorem hpl_stop (l : List (Int × Int)) (x y : Int) (n k : Nat) (hl : l.length = n + 1) (hk : k ≤ n) (h : (hpl l x y ((pf l n).1, (pf l n).2, 0) (pdown n k)).2.2 ≠ 0) : pvl x y l = hpl l x y ((pf l n).1, (pf l n).2, 0) (pdown n k) := by
  obtain ⟨js, hj⟩ := pdown_split n k hk
  rw [← hpl_all l x y n hl, hj, hpl_append, hpl_err _ _ _ _ _ h]

/-- What lies in memory between two rounds. -/
def PvC (B : Nat) (x y a b e : Int) (W : World) : Prop :=
  (W.cell? ⟨B, 0, none⟩ = some (.int .i64 x) ∧ W.cell? ⟨B, 1, none⟩ = some (.int .i64 y)) ∧
  (W.cell? ⟨B + 1, 0, none⟩ = some (.int .i64 0) ∧ W.cell? ⟨B + 1, 1, none⟩ = some (.int .i64 0) ∧ W.frozen? ⟨B + 1, 0, none⟩ = false ∧ W.frozen? ⟨B + 1, 1, none⟩ = false) ∧
  (W.cell? ⟨B + 1 + 1, 0, none⟩ = some (.int .i64 a) ∧ W.cell? ⟨B + 1 + 1, 1, none⟩ = some (.int .i64 b) ∧ W.frozen? ⟨B + 1 + 1, 0, none⟩ = false ∧ W.frozen? ⟨B + 1 + 1, 1, none⟩ = false) ∧
  (W.cell? ⟨B + 1 + 1 + 1, 0, none⟩ = some (.int .i64 e) ∧ W.frozen? ⟨B + 1 + 1 + 1, 0, none⟩ = false) ∧
  W.cell? ⟨B + 1 + 1 + 1 + 1, 0, none⟩ = some (.func (.func 43) #[] #[.pointer (some ⟨B + 1 + 1, 0, none⟩), .pointer (some ⟨B + 1 + 1 + 1, 0, none⟩)])
theorem PvC.kept {B : Nat} {x y a b e : Int} {A W : World} {row : Option Nat} (h : PvC B x y a b e A) (hg : A.grownBy W row) (hr : ∀ r, row = some r → ∃ o : Obj, A.heap[r]? = some o ∧ o.isCells = false) : PvC B x y a b e W := by
  obtain ⟨⟨h1, h2⟩, ⟨h3, h4, h5, h6⟩, ⟨h7, h8, h9, h10⟩, ⟨h11, h12⟩, h13⟩ := h
  exact ⟨⟨cell_kept h1 hg hr, cell_kept h2 hg hr⟩, ⟨cell_kept h3 hg hr, cell_kept h4 hg hr, (frozen_kept h3 hg hr).trans h5, (frozen_kept h4 hg hr).trans h6⟩,
    ⟨cell_kept h7 hg hr, cell_kept h8 hg hr, (frozen_kept h7 hg hr).trans h9, (frozen_kept h8 hg hr).trans h10⟩, ⟨cell_kept h11 hg hr, (frozen_kept h11 hg hr).trans h12⟩, cell_kept h13 hg hr⟩
theorem PvC.keep {B : Nat} {x y a b e : Int} {A W : World} (h : PvC B x y a b e A) (hb : Below A.heap.size A W) : PvC B x y a b e W :=
  h.kept (row := none) ⟨hb.os, hb.tape, hb.output, hb.size, fun k hk _ => hb.block k hk⟩ (fun r e => by cases e)
theorem PvC.set {B : Nat} {x y a b e : Int} {W : World} (h : PvC B x y a b e W) (a' b' e' : Int) :
    PvC B x y a' b' e' (((W.setCell ⟨B + 1 + 1, 0, none⟩ (.int .i64 a')).setCell ⟨B + 1 + 1, 1, none⟩ (.int .i64 b')).setCell ⟨B + 1 + 1 + 1, 0, none⟩ (.int .i64 e')) := by
  obtain ⟨⟨h1, h2⟩, ⟨h3, h4, h5, h6⟩, ⟨h7, h8, h9, h10⟩, ⟨h11, h12⟩, h13⟩ := h
  refine ⟨⟨?_, ?_⟩, ⟨?_, ?_, ?_, ?_⟩, ⟨?_, ?_, ?_, ?_⟩, ⟨?_, ?_⟩, ?_⟩ <;> simp [go_sem, h1, h2, h3, h4, h5, h6, h7, h8, h9, h10, h11, h12, h13]

/-- What a round keeps for the iterator; what holds between two rounds; and when a round has left the loop. -/
def PyK (B : Nat) (W W' : World) : Prop := Below B W W' ∧ W'.cell? ⟨B + 1 + 1 + 1 + 1 + 1, 0, none⟩ = W.cell? ⟨B + 1 + 1 + 1 + 1 + 1, 0, none⟩
def PyI (w : World) (l : List (Int × Int)) (x y : Int) (v : Int × Int × Int) (pre : List Nat) (W : World) : Prop :=
  (hpl l x y v pre).2.2 = 0 ∧ PvC w.heap.size x y (hpl l x y v pre).1 (hpl l x y v pre).2.1 0 W ∧ Below w.heap.size w W ∧ w.heap.size + 6 ≤ W.heap.size
def PyX (w : World) (l : List (Int × Int)) (x y : Int) (v : Int × Int × Int) (c : Code) (pre : List Nat) (W : World) : Prop :=
  c = .exit 0 ∧ (hpl l x y v pre).2.2 ≠ 0 ∧ PvC w.heap.size x y (hpl l x y v pre).1 (hpl l x y v pre).2.1 (hpl l x y v pre).2.2 W ∧ Below w.heap.size w W ∧ w.heap.size + 6 ≤ W.heap.size

/-- What holds behind an extension. -/
theorem ext_after {w W w1 : World} {x y a b r0 r1 r2 : Int} (hC : PvC w.heap.size x y a b 0 W) (hB : Below w.heap.size w W) (hs : w.heap.size + 6 ≤ W.heap.size) (hb : Below W.heap.size W w1) :
    PvC w.heap.size x y r0 r1 r2 (((w1.setCell ⟨w.heap.size + 1 + 1, 0, none⟩ (.int .i64 r0)).setCell ⟨w.heap.size + 1 + 1, 1, none⟩ (.int .i64 r1)).setCell ⟨w.heap.size + 1 + 1 + 1, 0, none⟩ (.int .i64 r2)) ∧ KeepsOthers W (((w1.setCell ⟨w.heap.size + 1 + 1, 0, none⟩ (.int .i64 r0)).setCell ⟨w.heap.size + 1 + 1, 1, none⟩ (.int .i64 r1)).setCell ⟨w.heap.size + 1 + 1 + 1, 0, none⟩ (.int .i64 r2)) ∧ PyK w.heap.size W (((w1.setCell ⟨w.heap.size + 1 + 1, 0, none⟩ (.int .i64 r0)).setCell ⟨w.heap.size + 1 + 1, 1, none⟩ (.int .i64 r1)).setCell ⟨w.heap.size + 1 + 1 + 1, 0, none⟩ (.int .i64 r2)) ∧ Below w.heap.size w (((w1.setCell ⟨w.heap.size + 1 + 1, 0, none⟩ (.int .i64 r0)).setCell ⟨w.heap.size + 1 + 1, 1, none⟩ (.int .i64 r1)).setCell ⟨w.heap.size + 1 + 1 + 1, 0, none⟩ (.int .i64 r2)) ∧ W.heap.size ≤ (((w1.setCell ⟨w.heap.size + 1 + 1, 0, none⟩ (.int .i64 r0)).setCell ⟨w.heap.size + 1 + 1, 1, none⟩ (.int .i64 r1)).setCell ⟨w.heap.size + 1 + 1 + 1, 0, none⟩ (.int .i64 r2)).heap.size ∧
    (∀ (Bx o : Nat) (v : Value), w.heap.size + 5 < Bx → W.cell? ⟨Bx, o, none⟩ = some v → (((w1.setCell ⟨w.heap.size + 1 + 1, 0, none⟩ (.int .i64 r0)).setCell ⟨w.heap.size + 1 + 1, 1, none⟩ (.int .i64 r1)).setCell ⟨w.heap.size + 1 + 1 + 1, 0, none⟩ (.int .i64 r2)).cell? ⟨Bx, o, none⟩ = some v) := by
  have h1 := hb.mono (show w.heap.size ≤ W.heap.size by omega)
  have h2 := ((h1.setCell (p := ⟨w.heap.size + 1 + 1, 0, none⟩) (by simp; omega) (.int .i64 r0)).setCell (p := ⟨w.heap.size + 1 + 1, 1, none⟩) (by simp; omega) (.int .i64 r1)).setCell (p := ⟨w.heap.size + 1 + 1 + 1, 0, none⟩) (by simp; omega) (.int .i64 r2)
  refine ⟨(hC.keep hb).set r0 r1 r2, (((othersBelow hb).trans (KeepsOthers.setCell _ _ _)).trans (KeepsOthers.setCell _ _ _)).trans (KeepsOthers.setCell _ _ _), ⟨h2, ?_⟩, hB.trans h2, h2.size, fun Bx o v hx hv => ?_⟩
  · have e : w1.cell? ⟨w.heap.size + 1 + 1 + 1 + 1 + 1, 0, none⟩ = W.cell? ⟨w.heap.size + 1 + 1 + 1 + 1 + 1, 0, none⟩ := hb.cell (p := ⟨w.heap.size + 1 + 1 + 1 + 1 + 1, 0, none⟩) (by simp; omega)
    rw [← e]; simp [go_sem]
  · have e := bkeep hb hv
    have n1 : w.heap.size + 1 + 1 ≠ Bx := by omega
    have n2 : w.heap.size + 1 + 1 + 1 ≠ Bx := by omega
    have n3 : Bx ≠ w.heap.size + 1 + 1 := by omega
    have n4 : Bx ≠ w.heap.size + 1 + 1 + 1 := by omega
    simp [go_sem, e]

set_option maxRecDepth 100000 in
set_option maxHeartbeats 4000000 in
theorem value_any (va : Value) (l : List (Int × Int)) (x y : Int) (w : World) (ha : Sn w va l) (hl8 : l.length ≤ 8) :
    Calls Try.prog 29 #[va, .agg #[.int .i64 x, .int .i64 y]] w fun e w' => e = .returned (spV (pvl x y l)) ∧ Below w.heap.size w w' := by
  have hmf : ∀ (fn : Fn) (first cap : Array Value) (w : World), (Instr.makeFunc fn first cap).run Try.prog w = .ok (.func fn first cap) w := fun _ _ _ _ => rfl
  obtain ⟨pa, ca, rfl, ⟨hca, _⟩, hpa⟩ := ha
  by_cases h0 : l.length = 0
  · have H := Lib.hid (show pvl x y l = (0, 0, 0) by rw [List.length_eq_zero_iff.1 h0]; rfl)
    rw [h0]
    clear hpa h0 hca hl8
    go_enter Try.func29, Try.ntmps29
    go_wp2
    go_step3
    go_wp2
    rw [Exit.noGoto_ret]
    refine bodyPost_ret (v := .tuple #[.agg #[.int .i64 0, .int .i64 0], .int .i64 0]) (by simp [results, Try.results29, go_sem]) rfl ⟨by rw [H.out], by (repeat (first | with_reducible exact Below.refl _ _ | with_reducible assumption | refine Below.alloc ?_ (by (try simp); try omega) _ | refine Below.setCell ?_ (by (try simp); try omega) _ | refine below_drewN ?_ _ | refine Below.drew ?_ | (with_reducible refine Below.trans ?_ (Below.mono (by assumption) (by (try simp); try omega)))))⟩
  obtain ⟨n, hn⟩ : ∃ n, l.length = n + 1 := ⟨l.length - 1, by omega⟩
  obtain ⟨b, off, rfl, hcs⟩ := hpa (by omega)
  have hall := Lib.hid (hpl_all l x y n hn)
  have hstop := fun k hk h => Lib.hid (hpl_stop l x y n k hn hk h)
  have hb := World.block_lt_of_cell? w _ (hcs 0 (by omega)).1
  obtain ⟨hc0, hc1⟩ := hcs n (by omega)
  obtain ⟨m, hm⟩ : ∃ m, l.length = m := ⟨_, rfl⟩
  rw [hm] at hca hl8 hcs hn ⊢
  have hz : ((m : Int) == 0) = false := by simp; omega
  have hs1 : (m : Int) - 1 = (n : Int) := by omega
  have hlt : n < m := by omega
  have Hcs := Lib.hid hcs
  clear hpa hcs h0
  have Hn := Lib.hid hn
  have Hm := Lib.hid hm
  clear hn hm
  refine (callsIn_wide (n := 6)).1 ?_
  refine callsIn_of_wp_marks Try.func29 rfl trivial ?_ rfl
  simp only [Try.ntmps29, List.size_toArray, List.length_cons, List.length_nil, Nat.reduceAdd, Nat.reduceSub, Array.replicate_succ, Array.replicate_zero, List.push_toArray, List.append_toArray, List.nil_append, List.cons_append]
  gi_wp2
  refine wpIn_scope_straight ?_
  gi_wp2
  refine wpIn_label ?_
  gi_wp2_with (refine ⟨trivial, ?_⟩; gi_at_call 44; refine (callsIn_wide.2 (backward_any _ _ _ _)).mono ?_; rintro e w' ⟨rfl, rfl⟩)
  have hB0 : Below w.heap.size w ((((((w.alloc (.cells #[.int .i64 x, .int .i64 y] 24)).alloc (.cells #[.int .i64 0, .int .i64 0] 24)).alloc (.cells #[.int .i64 (pf l n).1, .int .i64 (pf l n).2] 24)).alloc (.cells #[.int .i64 0] 35)).alloc (.cells #[.func (.func 43) #[] #[.pointer (some ⟨w.heap.size + 1 + 1, 0, none⟩), .pointer (some ⟨w.heap.size + 1 + 1 + 1, 0, none⟩)]] 66)).alloc (.cells #[.slice (some ⟨b, off, none⟩) n ca] 22)) := by (repeat (first | with_reducible exact Below.refl _ _ | with_reducible assumption | refine Below.alloc ?_ (by (try simp); try omega) _ | refine Below.setCell ?_ (by (try simp); try omega) _ | refine below_drewN ?_ _ | refine Below.drew ?_ | (with_reducible refine Below.trans ?_ (Below.mono (by assumption) (by (try simp); try omega)))))
  have hsz : ((((((w.alloc (.cells #[.int .i64 x, .int .i64 y] 24)).alloc (.cells #[.int .i64 0, .int .i64 0] 24)).alloc (.cells #[.int .i64 (pf l n).1, .int .i64 (pf l n).2] 24)).alloc (.cells #[.int .i64 0] 35)).alloc (.cells #[.func (.func 43) #[] #[.pointer (some ⟨w.heap.size + 1 + 1, 0, none⟩), .pointer (some ⟨w.heap.size + 1 + 1 + 1, 0, none⟩)]] 66)).alloc (.cells #[.slice (some ⟨b, off, none⟩) n ca] 22)).heap.size = w.heap.size + 6 := by simp
  have I0 : PvC w.heap.size x y (pf l n).1 (pf l n).2 0 ((((((w.alloc (.cells #[.int .i64 x, .int .i64 y] 24)).alloc (.cells #[.int .i64 0, .int .i64 0] 24)).alloc (.cells #[.int .i64 (pf l n).1, .int .i64 (pf l n).2] 24)).alloc (.cells #[.int .i64 0] 35)).alloc (.cells #[.func (.func 43) #[] #[.pointer (some ⟨w.heap.size + 1 + 1, 0, none⟩), .pointer (some ⟨w.heap.size + 1 + 1 + 1, 0, none⟩)]] 66)).alloc (.cells #[.slice (some ⟨b, off, none⟩) n ca] 22)) := by
    refine ⟨⟨?_, ?_⟩, ⟨?_, ?_, ?_, ?_⟩, ⟨?_, ?_, ?_, ?_⟩, ⟨?_, ?_⟩, ?_⟩ <;> simp [go_sem]
  have hbx : ((((((w.alloc (.cells #[.int .i64 x, .int .i64 y] 24)).alloc (.cells #[.int .i64 0, .int .i64 0] 24)).alloc (.cells #[.int .i64 (pf l n).1, .int .i64 (pf l n).2] 24)).alloc (.cells #[.int .i64 0] 35)).alloc (.cells #[.func (.func 43) #[] #[.pointer (some ⟨w.heap.size + 1 + 1, 0, none⟩), .pointer (some ⟨w.heap.size + 1 + 1 + 1, 0, none⟩)]] 66)).alloc (.cells #[.slice (some ⟨b, off, none⟩) n ca] 22)).cell? ⟨w.heap.size + 1 + 1 + 1 + 1 + 1, 0, none⟩ = some (.slice (some ⟨b, off, none⟩) n ca) := by simp [go_sem]
  obtain ⟨W0, hW0⟩ : ∃ W0, ((((((w.alloc (.cells #[.int .i64 x, .int .i64 y] 24)).alloc (.cells #[.int .i64 0, .int .i64 0] 24)).alloc (.cells #[.int .i64 (pf l n).1, .int .i64 (pf l n).2] 24)).alloc (.cells #[.int .i64 0] 35)).alloc (.cells #[.func (.func 43) #[] #[.pointer (some ⟨w.heap.size + 1 + 1, 0, none⟩), .pointer (some ⟨w.heap.size + 1 + 1 + 1, 0, none⟩)]] 66)).alloc (.cells #[.slice (some ⟨b, off, none⟩) n ca] 22)) = W0 := ⟨_, rfl⟩
  rw [hW0] at hB0 hsz I0 hbx ⊢
  clear hW0 hmf hc0 hc1
  refine wpIn_rangeFunc_ownH rfl (by omega) (gf := 58) (lb := #[.pointer (some ⟨w.heap.size + 1 + 1 + 1 + 1 + 1, 0, none⟩)]) rfl trivial (enters_of Try.func58 (by kernel_rfl) rfl)
    (encs := pyEnc l) (Kp := PyK w.heap.size) (S := fun ys => ys = pdown n n) (Sp := fun pre => ∃ k, k ≤ n ∧ pre = pdown n k) (N := n) (w0 := W0)
    (fun r J Jx W hW hJ hJx hY h0 => pback_in (6 - 1) (by omega) r (w.heap.size + 1 + 1 + 1 + 1 + 1) w.heap.size n (some ⟨b, off, none⟩) ca l (by omega) (PyK w.heap.size) (fun _ _ h => h) J Jx hY W ((hW.cell (p := ⟨w.heap.size + 1 + 1 + 1 + 1 + 1, 0, none⟩) (by simp; omega)).trans hbx)
      (fun _ => ⟨b, off, rfl, hb, fun i hi => ⟨(hW.cell (p := ⟨b, off + i * 2, none⟩) (by simp; omega)).trans (bkeep hB0 (Hcs.out i (by omega)).1), (hW.cell (p := ⟨b, off + i * 2 + 1, none⟩) (by simp; omega)).trans (bkeep hB0 (Hcs.out i (by omega)).2)⟩⟩) h0)
    (fun h k => ⟨h.1.trans k.1, k.2.trans h.2⟩) (fun W q o o' hl h _ _ => ⟨(Below.refl _ W).grown (grownBy_putObj' W q o') (by have := (Array.getElem?_eq_some_iff.1 h).1; omega) (fun k e => by cases e; omega), World.cell?_of_block (World.putObj_heap_other (by simp; omega))⟩) (Below.refl _ _) (fun _ => rfl)
    (PyI w l x y ((pf l n).1, (pf l n).2, 0)) (PyX w l x y ((pf l n).1, (pf l n).2, 0))
    (fun s A B row hs hg hr => ⟨hs.1, hs.2.1.kept hg (fun r e => (hr r e).2), ownFrom_below (β := Unit) (Nat.le_refl _) (by omega) () A B row hs.2.2.1 hg hr, Nat.le_trans hs.2.2.2 hg.size⟩)
    (fun c s A B row hs hg hr => ⟨hs.1, hs.2.1, hs.2.2.1.kept hg (fun r e => (hr r e).2), ownFrom_below (β := Unit) (Nat.le_refl _) (by omega) () A B row hs.2.2.2.1 hg hr, Nat.le_trans hs.2.2.2.2 hg.size⟩)
    ⟨rfl, I0, hB0, by omega⟩
    (fun k a' W => ∃ Bx, w.heap.size + 5 < Bx ∧ W.cell? ⟨Bx, 0, none⟩ = some (.int .i64 (pf l k).1) ∧ W.cell? ⟨Bx, 1, none⟩ = some (.int .i64 (pf l k).2) ∧ a' = { tmps := #[Value.slice (some ⟨b, off, none⟩) m ca, .agg #[.int .i64 x, .int .i64 y], undef, .pointer (some ⟨w.heap.size, 0, none⟩), .pointer (some ⟨w.heap.size + 1, 0, none⟩), .int .i64 0, .int .i64 n, .pointer (some ⟨w.heap.size + 1 + 1, 0, none⟩), .pointer (some ⟨w.heap.size + 1 + 1 + 1, 0, none⟩), .pointer (some ⟨w.heap.size + 1 + 1 + 1 + 1, 0, none⟩), .pointer (some ⟨Bx, 0, none⟩), .slice (some ⟨b, off, none⟩) m ca, .int .i64 m, .bool false, undef, .slice (some ⟨b, off, none⟩) m ca, .int .i64 m, .int .i64 n, .slice (some ⟨b, off, none⟩) m ca, .int .i64 n, .pointer (some ⟨b, off + n * 2, none⟩), .agg #[.int .i64 (pf l n).1, .int .i64 (pf l n).2], .func (.func 43) #[] #[.pointer (some ⟨w.heap.size + 1 + 1, 0, none⟩), .pointer (some ⟨w.heap.size + 1 + 1 + 1, 0, none⟩)], .slice (some ⟨b, off, none⟩) m ca, .int .i64 n, .slice (some ⟨b, off, none⟩) n ca, .func (.func 58) #[] #[.pointer (some ⟨w.heap.size + 1 + 1 + 1 + 1 + 1, 0, none⟩)], .agg #[.int .i64 (pf l k).1, .int .i64 (pf l k).2], undef, undef, undef, undef, undef, undef, undef, undef, undef, undef, undef, undef], defers := [] })
    (fun k a' _ X Y row hs hg hr => by obtain ⟨Bx, h1, h2, h3, h4⟩ := hs; exact ⟨Bx, h1, cell_kept h2 hg (fun r e => (hr r e).2), cell_kept h3 hg (fun r e => (hr r e).2), h4⟩)
    ?assign ?body ?done ?stop
  case assign =>
    rintro r pre k W K ⟨he, hO, hB, hs⟩ hK
    gi_wp2
    exact hK _ _ ((KeepsOthers.alloc _ _).from _) ⟨(Below.refl _ _).alloc (by omega) _, ((Below.refl W.heap.size W).alloc (Nat.le_refl _) _).cell (p := ⟨w.heap.size + 1 + 1 + 1 + 1 + 1, 0, none⟩) (by simp; omega)⟩ ⟨he, hO.keep ((Below.refl _ _).alloc (Nat.le_refl _) _), hB.alloc hB.size _, by simp; omega⟩ ⟨W.heap.size, by omega, by simp, by simp, rfl⟩
  case body =>
    rintro r pre k a' W hl ⟨rr, hr⟩ ⟨he, hC, hB, hs⟩ ⟨Bx, hBx, bX, bY, rfl⟩ hlt'
    have hT := hpl_snoc l x y ((pf l n).1, (pf l n).2, 0) pre k
    obtain ⟨⟨a0, b0, e0⟩, hv⟩ : ∃ v, hpl l x y ((pf l n).1, (pf l n).2, 0) pre = v := ⟨_, rfl⟩
    rw [hv] at hT he hC
    simp only at he hC
    subst he
    obtain ⟨⟨r0, r1, r2⟩, hm⟩ : ∃ q, sMulR a0 b0 x y = q := ⟨_, rfl⟩
    have hlB := World.block_lt_of_cell? W _ bX
    simp at hlB
    have hn1 : Bx ≠ w.heap.size + 1 + 1 := by omega
    have hn2 : Bx ≠ w.heap.size + 1 + 1 + 1 := by omega
    have hn3 : Bx ≠ w.heap.size := by omega
    have hC' := hC
    obtain ⟨⟨h1, h2⟩, ⟨h3, h4, h5, h6⟩, ⟨h7, h8, h9, h10⟩, ⟨h11, h12⟩, h13⟩ := hC'
    have hmul := fun z hz => extMul_any a0 b0 x y (w.heap.size + 1 + 1) (w.heap.size + 1 + 1 + 1) z r0 r1 r2 W (by omega) h7 h8 h11 h9 h10 h12 hm hz
    clear hr hv h3 h4 h5 h6
    by_cases z : r2 = 0
    · subst z
      replace hmul := hmul true rfl
      obtain ⟨⟨s0, s1, s2⟩, ha⟩ : ∃ q, sAddR r0 r1 (pf l k).1 (pf l k).2 = q := ⟨_, rfl⟩
      have hT' : hpl l x y ((pf l n).1, (pf l n).2, 0) (pre ++ [k]) = (s0, s1, s2) := by
        rw [hT]; unfold hst; simp only [hm, if_true]; exact ha
      replace hT' := Lib.hid hT'
      have hadd := fun W1 z hz (g : PvC w.heap.size x y r0 r1 0 W1) => extAdd_any r0 r1 (pf l k).1 (pf l k).2 (w.heap.size + 1 + 1) (w.heap.size + 1 + 1 + 1) z s0 s1 s2 W1 (by omega) g.2.2.1.1 g.2.2.1.2.1 g.2.2.2.1.1 g.2.2.1.2.2.1 g.2.2.1.2.2.2 g.2.2.2.1.2 ha hz
      clear hT hm ha
      by_cases zs : s2 = 0
      · subst zs
        replace hadd := fun W1 g => hadd W1 true rfl g
        generalize (pf l k).1 = c0 at *
        generalize (pf l k).2 = c1 at *
        gi_wp2_with fail
        refine ⟨trivial, ?_⟩
        gi_at_call 43
        refine (CallsIn.inRound r (callsIn_wide.2 hmul)).mono ?_
        rintro e w' ⟨rfl, w1, hb1, _, rfl⟩
        obtain ⟨C1, K1, P1, B1, S1, X1⟩ := ext_after (r0 := r0) (r1 := r1) (r2 := 0) hC hB hs hb1
        have bX1 := X1 Bx 0 _ hBx bX
        have bY1 := X1 Bx 1 _ hBx bY
        clear hb1 hmul bX bY hC X1
        obtain ⟨V, hV⟩ : ∃ V, (((w1.setCell ⟨w.heap.size + 1 + 1, 0, none⟩ (.int .i64 r0)).setCell ⟨w.heap.size + 1 + 1, 1, none⟩ (.int .i64 r1)).setCell ⟨w.heap.size + 1 + 1 + 1, 0, none⟩ (.int .i64 0)) = V := ⟨_, rfl⟩
        rw [hV] at C1 K1 P1 B1 S1 bX1 bY1 ⊢
        clear hV h1 h2 h7 h8 h9 h10 h11 h12 h13
        have C1' := C1
        obtain ⟨⟨h1, h2⟩, _, ⟨h7, h8, h9, h10⟩, ⟨h11, h12⟩, h13⟩ := C1'
        gi_wp2_with fail
        refine ⟨trivial, ?_⟩
        gi_at_call 43
        refine (CallsIn.inRound r (callsIn_wide.2 (hadd V C1))).mono ?_
        rintro e w' ⟨rfl, w2, hb2, _, rfl⟩
        obtain ⟨C2, K2, P2, B2, S2, _⟩ := ext_after (r0 := s0) (r1 := s1) (r2 := 0) C1 B1 (Nat.le_trans hs S1) hb2
        clear hb2 hadd bX1 bY1 C1 h1 h2 h7 h8 h9 h10 h11 h12 h13
        obtain ⟨V2, hV2⟩ : ∃ V2, (((w2.setCell ⟨w.heap.size + 1 + 1, 0, none⟩ (.int .i64 s0)).setCell ⟨w.heap.size + 1 + 1, 1, none⟩ (.int .i64 s1)).setCell ⟨w.heap.size + 1 + 1 + 1, 0, none⟩ (.int .i64 0)) = V2 := ⟨_, rfl⟩
        rw [hV2] at C2 K2 P2 B2 S2 ⊢
        clear hV2
        gi_wp2
        exact ⟨(K1.trans K2).from _, ⟨P1.1.trans P2.1, P2.2.trans P1.2⟩, by rw [hT'.out], by rw [hT'.out]; exact C2, B2, by omega⟩
      · have hz' : (s2 == 0) = false := by simpa using zs
        replace hadd := fun W1 g => hadd W1 false hz' g
        generalize (pf l k).1 = c0 at *
        generalize (pf l k).2 = c1 at *
        gi_wp2_with fail
        refine ⟨trivial, ?_⟩
        gi_at_call 43
        refine (CallsIn.inRound r (callsIn_wide.2 hmul)).mono ?_
        rintro e w' ⟨rfl, w1, hb1, _, rfl⟩
        obtain ⟨C1, K1, P1, B1, S1, X1⟩ := ext_after (r0 := r0) (r1 := r1) (r2 := 0) hC hB hs hb1
        have bX1 := X1 Bx 0 _ hBx bX
        have bY1 := X1 Bx 1 _ hBx bY
        clear hb1 hmul bX bY hC X1
        obtain ⟨V, hV⟩ : ∃ V, (((w1.setCell ⟨w.heap.size + 1 + 1, 0, none⟩ (.int .i64 r0)).setCell ⟨w.heap.size + 1 + 1, 1, none⟩ (.int .i64 r1)).setCell ⟨w.heap.size + 1 + 1 + 1, 0, none⟩ (.int .i64 0)) = V := ⟨_, rfl⟩
        rw [hV] at C1 K1 P1 B1 S1 bX1 bY1 ⊢
        clear hV h1 h2 h7 h8 h9 h10 h11 h12 h13
        have C1' := C1
        obtain ⟨⟨h1, h2⟩, _, ⟨h7, h8, h9, h10⟩, ⟨h11, h12⟩, h13⟩ := C1'
        gi_wp2_with fail
        refine ⟨trivial, ?_⟩
        gi_at_call 43
        refine (CallsIn.inRound r (callsIn_wide.2 (hadd V C1))).mono ?_
        rintro e w' ⟨rfl, w2, hb2, _, rfl⟩
        obtain ⟨C2, K2, P2, B2, S2, _⟩ := ext_after (r0 := s0) (r1 := s1) (r2 := s2) C1 B1 (Nat.le_trans hs S1) hb2
        clear hb2 hadd bX1 bY1 C1 h1 h2 h7 h8 h9 h10 h11 h12 h13
        obtain ⟨V2, hV2⟩ : ∃ V2, (((w2.setCell ⟨w.heap.size + 1 + 1, 0, none⟩ (.int .i64 s0)).setCell ⟨w.heap.size + 1 + 1, 1, none⟩ (.int .i64 s1)).setCell ⟨w.heap.size + 1 + 1 + 1, 0, none⟩ (.int .i64 s2)) = V2 := ⟨_, rfl⟩
        rw [hV2] at C2 K2 P2 B2 S2 ⊢
        clear hV2
        gi_wp2
        exact ⟨(K1.trans K2).from _, rfl, by rw [hT'.out]; exact zs, by rw [hT'.out]; exact C2, B2, by omega⟩
    · have hz' : (r2 == 0) = false := by simpa using z
      replace hmul := hmul false hz'
      have hT' : hpl l x y ((pf l n).1, (pf l n).2, 0) (pre ++ [k]) = (r0, r1, r2) := by
        rw [hT]; unfold hst; simp only [hm, if_true, if_neg z]
      replace hT' := Lib.hid hT'
      clear hT hm
      gi_wp2_with fail
      refine ⟨trivial, ?_⟩
      gi_at_call 43
      refine (CallsIn.inRound r (callsIn_wide.2 hmul)).mono ?_
      rintro e w' ⟨rfl, w1, hb1, _, rfl⟩
      obtain ⟨C1, K1, P1, B1, S1, X1⟩ := ext_after (r0 := r0) (r1 := r1) (r2 := r2) hC hB hs hb1
      have bX1 := X1 Bx 0 _ hBx bX
      have bY1 := X1 Bx 1 _ hBx bY
      clear hb1 hmul bX bY hC X1
      obtain ⟨V, hV⟩ : ∃ V, (((w1.setCell ⟨w.heap.size + 1 + 1, 0, none⟩ (.int .i64 r0)).setCell ⟨w.heap.size + 1 + 1, 1, none⟩ (.int .i64 r1)).setCell ⟨w.heap.size + 1 + 1 + 1, 0, none⟩ (.int .i64 r2)) = V := ⟨_, rfl⟩
      rw [hV] at C1 K1 P1 B1 S1 bX1 bY1 ⊢
      clear hV h1 h2 h7 h8 h9 h10 h11 h12 h13
      have C1' := C1
      obtain ⟨⟨h1, h2⟩, _, ⟨h7, h8, h9, h10⟩, ⟨h11, h12⟩, h13⟩ := C1'
      gi_wp2
      refine ⟨fun f hf => (by cases hf), ?_⟩
      gi_wp2
      exact ⟨K1.from _, rfl, by rw [hT'.out]; exact z, by rw [hT'.out]; exact C1, B1, by omega⟩
  case done =>
    rintro D xs W hD rfl ⟨he, hC, hB, hs⟩ hK
    obtain ⟨⟨a0, b0, e0⟩, hv⟩ : ∃ v, hpl l x y ((pf l n).1, (pf l n).2, 0) (pdown n n) = v := ⟨_, rfl⟩
    rw [hv] at he hC
    simp only at he hC
    subst he
    have hR := Lib.hid (hall.out.symm.trans hv)
    clear hall hstop hv
    have hC' := hC
    obtain ⟨⟨h1, h2⟩, ⟨h3, h4, h5, h6⟩, ⟨h7, h8, h9, h10⟩, ⟨h11, h12⟩, h13⟩ := hC'
    gi_wp2
    gi_region
    all_goals gi_wp2
    rw [Exit.noGoto_ret]
    have hK' := (((KeepsOthers.setCell W ⟨w.heap.size + 1, 0, none⟩ (.int .i64 a0)).trans (KeepsOthers.setCell _ ⟨w.heap.size + 1, 1, none⟩ (.int .i64 b0))).trans (KeepsOthers.drew _)).same D _ hK rfl
    refine ⟨by simp, .inl ⟨_, _, rfl, run_takeDeferred hK', ?_⟩⟩
    have q0 : ((W.setCell ⟨w.heap.size + 1, 0, none⟩ (.int .i64 a0)).setCell ⟨w.heap.size + 1, 1, none⟩ (.int .i64 b0)).drew.cell? ⟨w.heap.size + 1, 0, none⟩ = some (.int .i64 a0) := by simp [go_sem, h3]
    have q1 : ((W.setCell ⟨w.heap.size + 1, 0, none⟩ (.int .i64 a0)).setCell ⟨w.heap.size + 1, 1, none⟩ (.int .i64 b0)).drew.cell? ⟨w.heap.size + 1, 1, none⟩ = some (.int .i64 b0) := by simp [go_sem, h4]
    have c0 := cell_kept q0 (grownBy_putObj' _ D (.deferred none)) (fun r e => by cases e; exact ⟨_, hK', rfl⟩)
    have c1 := cell_kept q1 (grownBy_putObj' _ D (.deferred none)) (fun r e => by cases e; exact ⟨_, hK', rfl⟩)
    exact ⟨.tuple #[.agg #[.int .i64 a0, .int .i64 b0], .int .i64 0], by simp [results, Try.results29, go_sem, c0, c1], by rw [hR.out],
      (((hB.setCell (p := ⟨w.heap.size + 1, 0, none⟩) (by simp) _).setCell (p := ⟨w.heap.size + 1, 1, none⟩) (by simp) _).drew).trans (belowK_b (w := w) (Nat.le_refl _) _ D _ _ (by omega) hK' rfl rfl)⟩
  case stop =>
    rintro D c pre W hD ⟨k, hk, rfl⟩ ⟨rfl, he, hC, hB, hs⟩ hK
    have hS := hstop k hk he
    obtain ⟨⟨a0, b0, e0⟩, hv⟩ : ∃ v, hpl l x y ((pf l n).1, (pf l n).2, 0) (pdown n k) = v := ⟨_, rfl⟩
    rw [hv] at he hC
    simp only at he hC
    have hR := Lib.hid (hS.out.trans hv)
    clear hall hstop hv hS he
    have hC' := hC
    obtain ⟨⟨h1, h2⟩, ⟨h3, h4, h5, h6⟩, ⟨h7, h8, h9, h10⟩, ⟨h11, h12⟩, h13⟩ := hC'
    gi_wp2
    gi_region
    all_goals gi_wp2
    rw [Exit.noGoto_ret]
    have hK' := (((KeepsOthers.setCell W ⟨w.heap.size + 1, 0, none⟩ (.int .i64 a0)).trans (KeepsOthers.setCell _ ⟨w.heap.size + 1, 1, none⟩ (.int .i64 b0))).trans (KeepsOthers.drew _)).same D _ hK rfl
    refine ⟨by simp, .inl ⟨_, _, rfl, run_takeDeferred hK', ?_⟩⟩
    have q0 : ((W.setCell ⟨w.heap.size + 1, 0, none⟩ (.int .i64 a0)).setCell ⟨w.heap.size + 1, 1, none⟩ (.int .i64 b0)).drew.cell? ⟨w.heap.size + 1, 0, none⟩ = some (.int .i64 a0) := by simp [go_sem, h3]
    have q1 : ((W.setCell ⟨w.heap.size + 1, 0, none⟩ (.int .i64 a0)).setCell ⟨w.heap.size + 1, 1, none⟩ (.int .i64 b0)).drew.cell? ⟨w.heap.size + 1, 1, none⟩ = some (.int .i64 b0) := by simp [go_sem, h4]
    have c0 := cell_kept q0 (grownBy_putObj' _ D (.deferred none)) (fun r e => by cases e; exact ⟨_, hK', rfl⟩)
    have c1 := cell_kept q1 (grownBy_putObj' _ D (.deferred none)) (fun r e => by cases e; exact ⟨_, hK', rfl⟩)
    exact ⟨.tuple #[.agg #[.int .i64 a0, .int .i64 b0], .int .i64 e0], by simp [results, Try.results29, go_sem, c0, c1], by rw [hR.out],
      (((hB.setCell (p := ⟨w.heap.size + 1, 0, none⟩) (by simp) _).setCell (p := ⟨w.heap.size + 1, 1, none⟩) (by simp) _).drew).trans (belowK_b (w := w) (Nat.le_refl _) _ D _ _ (by omega) hK' rfl rfl)⟩
end Go.Proofs.Ytdaignklmbmcnaa
