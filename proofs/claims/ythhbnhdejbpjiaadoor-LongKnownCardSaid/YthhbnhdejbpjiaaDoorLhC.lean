/-
  Walks: slices.Backward; of package long: Int.
-/
import Derived.Test.YthhbnhdejbpjiaaDoorLhA
import Derived.RangeFuncBox
import Derived.RangeFuncLeaves
import Derived.RangeFuncNested
import Derived.Shelf.Abstract
import Derived.OwnWalkIn
import Derived.TacticsInMore
import Derived.LoopNIn
import Derived.LoopIn
namespace Go.Proofs.YthhbnhdejbpjiaaDoor
open Go.RowKit Go.Shelf

attribute [local go_sem] Oper.semAt_some

/-- The places from the last one down, so many of them. -/
def down (n k : Nat) : List Nat := (List.range k).map (fun j => n - 1 - j)
theorem down_succ (n k : Nat) : down n (k + 1) = down n k ++ [n - 1 - k] := by simp [down, List.range_succ]
theorem down_length (n k : Nat) : (down n k).length = k := by simp [down]

theorem backward_any (a : Option Addr) (len cap : Nat) (w : World) :
    Calls Tryd.prog 45 #[.slice a len cap] w fun e w' => e = .returned (.func (.func 66) #[] #[.pointer (some ⟨w.heap.size, 0, none⟩)]) ∧ w' = w.alloc (.cells #[.slice a len cap] 23) := by
  have hmf : ∀ (fn : Fn) (first cap : Array Value) (w : World), (Instr.makeFunc fn first cap).run Tryd.prog w = .ok (.func fn first cap) w := fun _ _ _ _ => rfl
  go_enter Tryd.func45, Tryd.ntmps45
  go_wp2
  go_ret
  exact ⟨rfl, rfl⟩

set_option maxRecDepth 100000 in
set_option maxHeartbeats 2000000 in
/-- The iterator, for every body of a loop that keeps what lay below n₀ and the iterator's own box. -/
theorem back1_in (m : Nat) (hm : 1 ≤ m) (r Bs n₀ : Nat) (pa : Option Addr) (cap : Nat) (l : List Int) (ll : l.length ≤ 1000000) (Kp : World → World → Prop) (hKp : ∀ W W', Kp W W' → Below n₀ W W' ∧ W'.cell? ⟨Bs, 0, none⟩ = W.cell? ⟨Bs, 0, none⟩)
    (J Jx : List Nat → World → Prop)
    (hY : ∀ pre (x : Nat) W, J pre W → pre.length < l.length → YieldAt Fence.wide (m - 1) Tryd.prog r #[.int .i64 (x : Int), .int .i64 (el l x)] W fun e W' =>
      (e = .returned (.bool true) ∧ J (pre ++ [x]) W' ∧ Kp W W') ∨ (e = .returned (.bool false) ∧ Jx (pre ++ [x]) W'))
    (W : World) (hBs : W.cell? ⟨Bs, 0, none⟩ = some (.slice pa l.length cap)) (hc : 0 < l.length → ∃ b off, pa = some ⟨b, off, none⟩ ∧ b < n₀ ∧ ∀ i, i < l.length → W.cell? ⟨b, off + i, none⟩ = some (.int .i64 (el l i))) (h0 : J [] W) :
    CallsIn Fence.wide m Tryd.prog 66 #[.func (.yield r) #[] #[], .pointer (some ⟨Bs, 0, none⟩)] W fun e W' => (∃ v, e = .returned v) ∧
      ((∃ ys, ys = down l.length l.length ∧ J ys W') ∨ (∃ pre, (∃ k, k ≤ l.length ∧ pre = down l.length k) ∧ Jx pre W')) := by
  refine callsIn_of_wp Tryd.func66 rfl trivial ?_ rfl
  simp only [Tryd.ntmps66, List.size_toArray, List.length_cons, List.length_nil, Nat.reduceAdd, Nat.reduceSub, Array.replicate_succ, Array.replicate_zero, List.push_toArray, List.append_toArray, List.nil_append, List.cons_append]
  gi_wp2
  gi_loopw [3] (fun i wr => ∃ k : Nat, k ≤ l.length ∧ i = .int .i64 ((l.length : Int) - 1 - k) ∧ J (down l.length k) wr ∧ Below n₀ W wr ∧ wr.cell? ⟨Bs, 0, none⟩ = some (.slice pa l.length cap))
    (fun i _ => (intOf i + 1).toNat)
  case atStart => exact ⟨0, Nat.zero_le _, by simp, h0, Below.refl _ _, hBs⟩
  case round =>
    obtain ⟨k, hk, rfl, hJs, hnx, hBs'⟩ := hrel
    by_cases hlt : k < l.length
    · obtain ⟨b, off, rfl, hb, hcs⟩ := hc (by omega)
      obtain ⟨j, hj⟩ : ∃ j : Nat, (l.length : Int) - 1 - k = j := ⟨l.length - 1 - k, by omega⟩
      have hjn : j < l.length := by omega
      rw [hj]
      have hcx : wr.cell? ⟨b, off + j, none⟩ = some (.int .i64 (el l j)) := (hnx.cell (p := ⟨b, off + j, none⟩) hb).trans (hcs j hjn)
      obtain ⟨fn, tmps, assign, body, hy, hR⟩ := hY _ j wr hJs (by rw [down_length]; exact hlt)
      have hds : down l.length k ++ [j] = down l.length (k + 1) := by rw [down_succ, show l.length - 1 - k = j by omega]
      have Hds := Lib.hid hds
      have hjk : (j : Int) - 1 = (l.length : Int) - 1 - ((k + 1 : Nat) : Int) := by omega
      have Hjk := Lib.hid hjk
      clear hc hcs hds hjk
      replace hj := Lib.hid hj
      generalize el l j = d at *
      gi_wp2
      refine hR.mono ?_
      rintro e W3 (⟨rfl, hJ3, hk3⟩ | ⟨rfl, hJx3⟩)
      · have hK := hKp _ _ hk3
        gi_wp2
        go_roundw
        case rel => exact ⟨k + 1, by omega, by rw [← Hjk.out], by rw [← Hds.out]; exact hJ3, hnx.trans hK.1, hK.2.trans hBs'⟩
        case measure => have := hj.out; simp [intOf] <;> omega
      · gi_wp2
        refine bodyPost_ret (results_none rfl _ _ _) rfl ?_
        exact ⟨⟨_, rfl⟩, .inr ⟨_, ⟨k + 1, by omega, Hds.out⟩, hJx3⟩⟩
    · obtain rfl : k = l.length := by omega
      have e : (l.length : Int) - 1 - (l.length : Int) = -1 := by omega
      rw [e]
      gi_wp2
      go_end0
      exact ⟨⟨_, rfl⟩, .inl ⟨_, rfl, hJs⟩⟩

/-- The number of the digits that have come. -/
def fz (l : List Int) (pre : List Nat) : Int := pre.foldl (fun s k => s * 1000000000 + el l k) 0
theorem fz_snoc (l : List Int) (pre : List Nat) (k : Nat) : fz l (pre ++ [k]) = fz l pre * 1000000000 + el l k := by unfold fz; rw [List.foldl_append]; rfl
theorem fz_down (l : List Int) (k : Nat) (hk : k ≤ l.length) : fz l (down l.length k) = vl (l.drop (l.length - k)) := by
  induction k with
  | zero => simp [down, fz, val]
  | succ k ih =>
    rw [down_succ, fz_snoc, ih (by omega)]
    have e : l.drop (l.length - (k + 1)) = el l (l.length - 1 - k) :: l.drop (l.length - k) := by
      rw [List.drop_eq_getElem_cons (by omega), show l.length - (k + 1) + 1 = l.length - k by omega]
      congr 1
      simp only [el, List.getD_eq_getElem?_getD, show l.length - 1 - k = l.length - (k + 1) by omega]
      rw [List.getElem?_eq_getElem (by omega)]; rfl
    rw [e]
    show _ = el l (l.length - 1 - k) + 1000000000 * vl (l.drop (l.length - k))
    omega
theorem fz_le {l : List Int} (h : Dg l) (k : Nat) (hk : k ≤ l.length) : fz l (down l.length k) ≤ vl l := by
  rw [fz_down l k hk]
  have e : vl l = vl (l.take (l.length - k)) + 1000000000 ^ (l.take (l.length - k)).length * vl (l.drop (l.length - k)) := by
    show val _ l = _
    conv => lhs; rw [← List.take_append_drop (l.length - k) l]
    exact val_append _ _ _
  have h1 := vl_nonneg (l := l.take (l.length - k)) (fun d hd => h d (List.mem_of_mem_take hd))
  have h2 := vl_nonneg (l := l.drop (l.length - k)) (fun d hd => h d (List.mem_of_mem_drop hd))
  have h3 := pow9 (l.take (l.length - k)).length
  have := Int.mul_le_mul_of_nonneg_right (show (1 : Int) ≤ 1000000000 ^ (l.take (l.length - k)).length by omega) h2
  omega
/-- The result of Int: the number, or the error. -/
def iR (b : Bool) (x : Int) : Int × Int := if b then (if x ≤ 9223372036854775808 then (-x, 0) else (0, 6)) else (if x < 9223372036854775808 then (x, 0) else (0, 6))

/-- What lies in memory between two rounds. -/
def InCells (h S : Nat) (b : Bool) (sz r0 r1 : Int) (W : World) : Prop :=
  W.cell? ⟨h, 0, none⟩ = some (.bool b) ∧ W.cell? ⟨h + 1, 0, none⟩ = some (.int .i64 r0) ∧ W.frozen? ⟨h + 1, 0, none⟩ = false ∧
  W.cell? ⟨h + 1 + 1, 0, none⟩ = some (.int .i64 r1) ∧ W.frozen? ⟨h + 1 + 1, 0, none⟩ = false ∧ W.cell? ⟨S, 0, none⟩ = some (.int .u64 sz) ∧ W.frozen? ⟨S, 0, none⟩ = false
theorem InCells.kept {h S : Nat} {b : Bool} {sz r0 r1 : Int} {A W : World} {row : Option Nat} (H : InCells h S b sz r0 r1 A) (hg : A.grownBy W row) (hr : ∀ r, row = some r → ∃ o : Obj, A.heap[r]? = some o ∧ o.isCells = false) : InCells h S b sz r0 r1 W := by
  obtain ⟨h1, h2, h3, h4, h5, h6, h7⟩ := H
  exact ⟨cell_kept h1 hg hr, cell_kept h2 hg hr, (frozen_kept h2 hg hr).trans h3, cell_kept h4 hg hr, (frozen_kept h4 hg hr).trans h5, cell_kept h6 hg hr, (frozen_kept h6 hg hr).trans h7⟩
theorem InCells.set {h S : Nat} {b : Bool} {sz r0 r1 : Int} {W : World} (H : InCells h S b sz r0 r1 W) (hS : h + 2 < S) (sz' : Int) : InCells h S b sz' r0 r1 (W.setCell ⟨S, 0, none⟩ (.int .u64 sz')) := by
  obtain ⟨h1, h2, h3, h4, h5, h6, h7⟩ := H
  have n0 : S ≠ h := by omega
  have n1 : S ≠ h + 1 := by omega
  have n2 : S ≠ h + 1 + 1 := by omega
  refine ⟨?_, ?_, ?_, ?_, ?_, ?_, ?_⟩ <;> simp [go_sem, h1, h2, h3, h4, h5, h6, h7, n0, n1, n2]
theorem InCells.res {h S : Nat} {b : Bool} {sz r0 r1 : Int} {W : World} (H : InCells h S b sz r0 r1 W) (x e : Int) :
    ((W.setCell ⟨h + 1, 0, none⟩ (.int .i64 x)).setCell ⟨h + 1 + 1, 0, none⟩ (.int .i64 e)).cell? ⟨h + 1, 0, none⟩ = some (.int .i64 x) ∧
    ((W.setCell ⟨h + 1, 0, none⟩ (.int .i64 x)).setCell ⟨h + 1 + 1, 0, none⟩ (.int .i64 e)).cell? ⟨h + 1 + 1, 0, none⟩ = some (.int .i64 e) := by
  obtain ⟨h1, h2, h3, h4, h5, h6, h7⟩ := H
  refine ⟨?_, ?_⟩ <;> simp [go_sem, h2, h4]
def InI (w : World) (S : Nat) (b : Bool) (l : List Int) (pre : List Nat) (W : World) : Prop := fz l pre < 18446744073709551616 ∧ 0 ≤ fz l pre ∧ InCells w.heap.size S b (fz l pre) 0 0 W ∧ Below w.heap.size w W ∧ S + 2 ≤ W.heap.size
def InX (w : World) (S : Nat) (l : List Int) (c : Code) (pre : List Nat) (W : World) : Prop := c = .ret ∧ 18446744073709551616 ≤ fz l pre ∧ (W.cell? ⟨w.heap.size + 1, 0, none⟩ = some (.int .i64 0) ∧ W.cell? ⟨w.heap.size + 1 + 1, 0, none⟩ = some (.int .i64 6)) ∧ Below w.heap.size w W ∧ S + 2 ≤ W.heap.size
def InK (h S : Nat) (W W' : World) : Prop := Below h W W' ∧ W'.cell? ⟨S + 1, 0, none⟩ = W.cell? ⟨S + 1, 0, none⟩

theorem cellAlloc2 {w : World} {p : Addr} {v : Value} {o o' : Obj} (h : w.cell? p = some v) : ((w.alloc o).alloc o').cell? p = some v := lkeep (((Below.refl w.heap.size w).alloc (Nat.le_refl _) o).alloc (by simp) o') h
set_option maxRecDepth 100000 in
set_option maxHeartbeats 4000000 in
theorem int_raw (b : Bool) (s1 : Value) (x : Int) (w : World) (x0 : 0 ≤ x) (h1 : Ls w s1 (dg x)) (l1 : (dg x).length ≤ 600) (hv1 : ckL b (dg x) = 0) :
    Calls Tryd.prog 20 #[.agg #[.bool b, s1]] w fun e w' => e = .returned (.tuple #[.int .i64 (iR b x).1, .int .i64 (iR b x).2]) ∧ Below w.heap.size w w' := by
  have hmf : ∀ (fn : Fn) (first cap : Array Value) (w : World), (Instr.makeFunc fn first cap).run Tryd.prog w = .ok (.func fn first cap) w := fun _ _ _ _ => rfl
  have hd := fun i => (dg_dig x x0).el (by omega) i
  have hfle := fun k hk => fz_le (dg_dig x x0) k hk
  have hfn := fz_down (dg x) (dg x).length (Nat.le_refl _)
  rw [Nat.sub_self, List.drop_zero, dg_val x x0] at hfn
  rw [dg_val x x0] at hfle
  have a1 := Below.alloc (Below.refl w.heap.size w) (Nat.le_refl _) (.cells #[.bool b, s1] 25)
  have a2 := Below.alloc a1 a1.size (.cells #[.int .i64 0] 3)
  have a3 := Below.alloc a2 a2.size (.cells #[.int .i64 0] 28)
  have a4 := Below.alloc a3 a3.size (.cells #[.bool b, s1] 25)
  have h1' := h1
  obtain ⟨pa, ca, rfl, ⟨hca', hnn⟩, hqa⟩ := h1
  have hqa' : 0 < (dg x).length → ∃ b off, pa = some ⟨b, off, none⟩ ∧ b < w.heap.size ∧ ∀ i, i < (dg x).length → w.cell? ⟨b, off + i, none⟩ = some (.int .i64 (el (dg x) i)) := fun h => by
    obtain ⟨b, off, e, hc⟩ := hqa h
    exact ⟨b, off, e, World.block_lt_of_cell? w _ (hc 0 h), hc⟩
  clear hca' hnn hqa
  generalize hl : dg x = l at *
  generalize hsl : (Value.slice pa l.length ca) = sl at *
  have e1 : ((((w.alloc (.cells #[.bool b, sl] 25)).alloc (.cells #[.int .i64 0] 3)).alloc (.cells #[.int .i64 0] 28)).alloc (.cells #[.bool b, sl] 25)).cell? ⟨w.heap.size + 1 + 1 + 1, 0, none⟩ = some (.bool b) := by simp [go_sem]
  have e2 : ((((w.alloc (.cells #[.bool b, sl] 25)).alloc (.cells #[.int .i64 0] 3)).alloc (.cells #[.int .i64 0] 28)).alloc (.cells #[.bool b, sl] 25)).cell? ⟨w.heap.size + 1 + 1 + 1, 1, none⟩ = some sl := by simp [go_sem]
  have hck := checkAll1_any b _ _ (w.heap.size + 1 + 1 + 1) _ (h1'.keep a4) (by omega) e1 e2
  rw [hv1] at hck
  have k0 : ∀ w1, Below ((((w.alloc (.cells #[.bool b, sl] 25)).alloc (.cells #[.int .i64 0] 3)).alloc (.cells #[.int .i64 0] 28)).alloc (.cells #[.bool b, sl] 25)).heap.size ((((w.alloc (.cells #[.bool b, sl] 25)).alloc (.cells #[.int .i64 0] 3)).alloc (.cells #[.int .i64 0] 28)).alloc (.cells #[.bool b, sl] 25)) w1 →
      w1.cell? ⟨w.heap.size, 0, none⟩ = some (.bool b) ∧ w1.cell? ⟨w.heap.size, 1, none⟩ = some sl ∧ w1.cell? ⟨w.heap.size + 1, 0, none⟩ = some (.int .i64 0) ∧ w1.frozen? ⟨w.heap.size + 1, 0, none⟩ = false ∧ w1.cell? ⟨w.heap.size + 1 + 1, 0, none⟩ = some (.int .i64 0) ∧ w1.frozen? ⟨w.heap.size + 1 + 1, 0, none⟩ = false ∧ w.heap.size + 4 ≤ w1.heap.size := fun w1 hb => by
    refine ⟨lkeep hb (by simp [go_sem]), lkeep hb (by simp [go_sem]), lkeep hb (by simp [go_sem]), ?_, lkeep hb (by simp [go_sem]), ?_, by have := hb.size; simp at this; omega⟩
    · rw [hb.frozen (by simp [go_sem] <;> omega)]; simp [go_sem]
    · rw [hb.frozen (by simp [go_sem] <;> omega)]; simp [go_sem]
  clear e1 e2 hv1
  subst hsl
  refine (callsIn_wide (n := 6)).1 ?_
  refine callsIn_of_wp_marks Tryd.func20 rfl trivial ?_ rfl
  simp only [Tryd.ntmps20, List.size_toArray, List.length_cons, List.length_nil, Nat.reduceAdd, Nat.reduceSub, Array.replicate_succ, Array.replicate_zero, List.push_toArray, List.append_toArray, List.nil_append, List.cons_append]
  gi_wp2_with (refine ⟨trivial, ?_⟩; gi_at_call 38; refine (callsIn_wide.2 hck).mono ?_; rintro e w1 ⟨rfl, hb1⟩; obtain ⟨c0, c1, c2, c3, c4, c5, c6⟩ := k0 w1 hb1; have z0 : w.heap.size < w1.heap.size := (by omega); have z1 : w.heap.size + 1 < w1.heap.size := (by omega); have z2 : w.heap.size + 1 + 1 < w1.heap.size := (by omega))
  have B1 : Below w.heap.size w w1 := a4.trans (hb1.mono a4.size)
  have hq1 : 0 < l.length → ∃ b off, pa = some ⟨b, off, none⟩ ∧ b < w.heap.size ∧ ∀ i, i < l.length → w1.cell? ⟨b, off + i, none⟩ = some (.int .i64 (el l i)) := fun h => by
    obtain ⟨b, off, e, hb, hc⟩ := hqa' h
    exact ⟨b, off, e, hb, fun i hi => (B1.cell (p := ⟨b, off + i, none⟩) hb).trans (hc i hi)⟩
  have Hq1 := Lib.hid hq1
  have Hfle := Lib.hid hfle
  have Hfn := Lib.hid hfn
  have Hd := Lib.hid hd
  clear hck k0 hb1 a1 a2 a3 a4 h1' hqa' hq1 hfle hfn hd
  gi_wp2_with (refine ⟨trivial, ?_⟩; gi_at_call 45; refine (callsIn_wide.2 (backward_any _ _ _ _)).mono ?_; rintro e w' ⟨rfl, rfl⟩)
  have hW : InCells w.heap.size w1.heap.size b 0 0 0 ((w1.alloc (.cells #[.int .u64 0] 76)).alloc (.cells #[.slice pa l.length ca] 23)) := by
    refine ⟨?_, ?_, ?_, ?_, ?_, ?_, ?_⟩ <;> simp [go_sem, c0, c2, c3, c4, c5, z0, z1, z2]
  have hB0 : Below w.heap.size w ((w1.alloc (.cells #[.int .u64 0] 76)).alloc (.cells #[.slice pa l.length ca] 23)) := (B1.alloc B1.size _).alloc (by have := B1.size; simp; omega) _
  have hcs : ((w1.alloc (.cells #[.int .u64 0] 76)).alloc (.cells #[.slice pa l.length ca] 23)).cell? ⟨w1.heap.size + 1, 0, none⟩ = some (.slice pa l.length ca) := by simp [go_sem]
  have hqW : 0 < l.length → ∃ b off, pa = some ⟨b, off, none⟩ ∧ b < w.heap.size ∧ ∀ i, i < l.length → ((w1.alloc (.cells #[.int .u64 0] 76)).alloc (.cells #[.slice pa l.length ca] 23)).cell? ⟨b, off + i, none⟩ = some (.int .i64 (el l i)) := fun h => by
    obtain ⟨b, off, e, hb, hc⟩ := Hq1.out h
    exact ⟨b, off, e, hb, fun i hi => by rw [cellAlloc2 (hc i hi)]⟩
  have hsz : ((w1.alloc (.cells #[.int .u64 0] 76)).alloc (.cells #[.slice pa l.length ca] 23)).heap.size = w1.heap.size + 2 := by simp
  obtain ⟨W0, hW0⟩ : ∃ W0, ((w1.alloc (.cells #[.int .u64 0] 76)).alloc (.cells #[.slice pa l.length ca] 23)) = W0 := ⟨_, rfl⟩
  rw [hW0] at hW hB0 hcs hqW hsz ⊢
  have HqW := Lib.hid hqW
  have hS : w.heap.size + 4 ≤ w1.heap.size := c6
  clear hW0 hmf c0 c1 c2 c3 c4 c5 c6 z0 z1 z2 B1 Hq1 hqW
  generalize w1.heap.size = S at *
  refine wpIn_rangeFunc_ownG rfl (by omega) (gf := 66) (lb := #[.pointer (some ⟨S + 1, 0, none⟩)]) rfl trivial (enters_of Tryd.func66 (by kernel_rfl) rfl)
    (encs := fun x : Nat => #[Value.int .i64 (x : Int), Value.int .i64 (el l x)]) (Kp := InK w.heap.size S) (S := fun ys => ys = down l.length l.length) (Sp := fun pre => ∃ k, k ≤ l.length ∧ pre = down l.length k) (N := l.length) (w0 := W0)
    (fun r J Jx W hW hJ hJx hY h0 => back1_in (6 - 1) (by omega) r (S + 1) w.heap.size pa ca l (by omega) (InK w.heap.size S) (fun _ _ h => h) J Jx hY W ((hW.cell (p := ⟨S + 1, 0, none⟩) (by simp; omega)).trans hcs)
      (fun h => by obtain ⟨b, off, e, hb, hc⟩ := HqW.out h; exact ⟨b, off, e, hb, fun i hi => (hW.cell (World.block_lt_of_cell? _ _ (hc i hi))).trans (hc i hi)⟩) h0)
    (fun h k => ⟨h.1.trans k.1, k.2.trans h.2⟩) (fun W q o o' hl h _ _ => ⟨(Below.refl _ W).grown (grownBy_putObj' W q o') (by have := (Array.getElem?_eq_some_iff.1 h).1; omega) (fun k e => by cases e; omega), World.cell?_of_block (World.putObj_heap_other (by simp; omega))⟩) (Below.refl _ _) (fun _ => rfl)
    (InI w S b l) (InX w S l)
    (fun s A B row hs hg hr => ⟨hs.1, hs.2.1, hs.2.2.1.kept hg (fun r e => (hr r e).2), ownFrom_below (β := Unit) (Nat.le_refl _) (by omega) () A B row hs.2.2.2.1 hg hr, Nat.le_trans hs.2.2.2.2 hg.size⟩)
    (fun c s A B row hs hg hr => ⟨hs.1, hs.2.1, ⟨cell_kept hs.2.2.1.1 hg (fun r e => (hr r e).2), cell_kept hs.2.2.1.2 hg (fun r e => (hr r e).2)⟩, ownFrom_below (β := Unit) (Nat.le_refl _) (by omega) () A B row hs.2.2.2.1 hg hr, Nat.le_trans hs.2.2.2.2 hg.size⟩)
    ⟨by show (0 : Int) < _; omega, Int.le_refl _, hW, hB0, by omega⟩
    ?a1 ?assign ?body ?done ?stop
  case assign =>
    intro r x W K hK
    gi_wp2
    exact hK
  case body =>
    rintro r pre x W ⟨hlt, h0, hC, hB, hs⟩ _
    have hT := fz_snoc l pre x
    have hdx := Hd.out x
    have hmul : ∀ w, Calls Tryd.prog 46 #[.int .u64 (fz l pre), .int .u64 1000000000] w fun e w' => e = .returned (.tuple #[.int .u64 (hi64 (fz l pre * 1000000000)), .int .u64 (lo64 (fz l pre * 1000000000))]) ∧ w' = w := fun w => (mul64 (fz l pre) 1000000000 w (by omega) (by omega) (by omega) (by omega)).mono fun _ _ h => ⟨h.1, h.2.symm⟩
    have hsum : hi64 (fz l pre * 1000000000) * 18446744073709551616 + lo64 (fz l pre * 1000000000) = fz l pre * 1000000000 := by unfold hi64 lo64; omega
    have bH : 0 ≤ hi64 (fz l pre * 1000000000) ∧ hi64 (fz l pre * 1000000000) < 1000000000 := by unfold hi64; omega
    have bL : 0 ≤ lo64 (fz l pre * 1000000000) ∧ lo64 (fz l pre * 1000000000) < 18446744073709551616 := by unfold lo64; omega
    generalize hi64 (fz l pre * 1000000000) = H at *
    generalize lo64 (fz l pre * 1000000000) = L at *
    have hC' := hC
    obtain ⟨h1, h2, h3, h4, h5, h6, h7⟩ := hC'
    have hwd : IntKind.u64.wrap (el l x) = el l x := wrap_in _ (by omega) (by omega)
    have hadd := add64 L (el l x) bL.1 bL.2 hdx.1 (by omega)
    have z1 : w.heap.size + 1 < W.heap.size := by omega
    by_cases hov : fz l (pre ++ [x]) < 18446744073709551616
    · have hH : H = 0 := by omega
      have hq : (L + el l x) / 18446744073709551616 = 0 := by omega
      have hr : (L + el l x) % 18446744073709551616 = fz l (pre ++ [x]) := by omega
      rw [hq, hr] at hadd
      subst hH
      have hnew : 0 ≤ fz l (pre ++ [x]) := by omega
      have hC2 := hC.set (by omega) (fz l (pre ++ [x]))
      generalize hF : fz l (pre ++ [x]) = T at *
      replace hF := Lib.hid hF
      generalize fz l pre = sz at *
      generalize el l x = d at *
      clear hT hsum hq hr
      gi_wp2_with (refine ⟨trivial, ?_⟩; gi_at_call 46; refine (CallsIn.inRound r (callsIn_wide.2 (hmul _))).mono ?_; rintro e w' ⟨rfl, rfl⟩)
      refine ⟨trivial, ?_⟩
      gi_wp2
      exact ⟨(KeepsOthers.setCell _ _ _).from _, ⟨(Below.refl _ _).setCell (p := ⟨S, 0, none⟩) (by simp; omega) _, by simp [go_sem]⟩, by rw [hF.out]; exact hov, by rw [hF.out]; exact hnew, by rw [hF.out]; exact hC2, hB.setCell (p := ⟨S, 0, none⟩) (by simp; omega) _, by simp; omega⟩
    · have hHC : H + (L + el l x) / 18446744073709551616 ≠ 0 := by omega
      have hq2 : 0 ≤ (L + el l x) / 18446744073709551616 ∧ (L + el l x) / 18446744073709551616 ≤ 1 := by omega
      generalize (L + el l x) / 18446744073709551616 = C at *
      generalize (L + el l x) % 18446744073709551616 = Z at *
      have hne : ((H + C) != 0) = true := by simpa using hHC
      have hge : 18446744073709551616 ≤ fz l (pre ++ [x]) := by omega
      have hR := hC.res 0 6
      generalize hF : fz l (pre ++ [x]) = T at *
      replace hF := Lib.hid hF
      generalize fz l pre = sz at *
      generalize el l x = d at *
      clear hT hsum hHC
      gi_wp2_with (refine ⟨trivial, ?_⟩; gi_at_call 46; refine (CallsIn.inRound r (callsIn_wide.2 (hmul _))).mono ?_; rintro e w' ⟨rfl, rfl⟩)
      refine ⟨trivial, ?_⟩
      gi_wp2
      exact ⟨((KeepsOthers.setCell _ _ _).trans (KeepsOthers.setCell _ _ _)).from _, rfl, by rw [hF.out]; exact hge, hR, (hB.setCell (p := ⟨w.heap.size + 1, 0, none⟩) (by simp) _).setCell (p := ⟨w.heap.size + 1 + 1, 0, none⟩) (by simp; omega) _, by simp; omega⟩
  case done =>
    rintro D xs W hD rfl ⟨hlt, h0, hC, hB, hs⟩ hK
    rw [Hfn.out] at hlt h0 hC
    clear Hfn Hfle Hd HqW hW hB0 hcs
    have hdone : ∀ r0 r1 : Int, W.heap[D]? = some (.deferred (some [])) → ((W.setCell ⟨w.heap.size + 1, 0, none⟩ (.int .i64 r0)).setCell ⟨w.heap.size + 1 + 1, 0, none⟩ (.int .i64 r1)).heap[D]? = some (.deferred (some [])) := fun r0 r1 hK =>
      ((KeepsOthers.setCell W ⟨w.heap.size + 1, 0, none⟩ (.int .i64 r0)).trans (KeepsOthers.setCell _ ⟨w.heap.size + 1 + 1, 0, none⟩ (.int .i64 r1))).same D _ hK rfl
    obtain ⟨h1, h2, h3, h4, h5, h6, h7⟩ := hC
    have hRs := fun r0 r1 => (show InCells w.heap.size S b x 0 0 W from ⟨h1, h2, h3, h4, h5, h6, h7⟩).res r0 r1
    cases b with
    | true =>
      by_cases hx : x ≤ 9223372036854775808
      · have hR : iR true x = (-x, 0) := by unfold iR; rw [if_pos rfl, if_pos hx]
        have hw : IntKind.i64.wrap (IntKind.u64.wrap (-x)) = -x := by
          rw [IntKind.wrap_u64, IntKind.wrap_i64]; omega
        replace hR := Lib.hid hR
        gi_wp2
        refine ⟨by simp, .inl ⟨_, _, rfl, run_takeDeferred (hdone (-x) 0 hK), ?_⟩⟩
        have d0 := cell_kept (hRs (-x) 0).1 (grownBy_putObj' _ D (.deferred none)) (fun r e => by cases e; exact ⟨_, hdone (-x) 0 hK, rfl⟩)
        have d1 := cell_kept (hRs (-x) 0).2 (grownBy_putObj' _ D (.deferred none)) (fun r e => by cases e; exact ⟨_, hdone (-x) 0 hK, rfl⟩)
        exact ⟨.tuple #[.int .i64 (-x), .int .i64 0], by simp [results, Tryd.results20, go_sem, d0, d1], by rw [hR.out],
          ((hB.setCell (p := ⟨w.heap.size + 1, 0, none⟩) (by simp) _).setCell (p := ⟨w.heap.size + 1 + 1, 0, none⟩) (by simp; omega) _).trans (belowK_b (w := w) (Nat.le_refl _) _ D _ _ (by omega) (hdone (-x) 0 hK) rfl rfl)⟩
      · have hR : iR true x = (0, 6) := by unfold iR; rw [if_pos rfl, if_neg hx]
        replace hR := Lib.hid hR
        gi_wp2
        refine ⟨by simp, .inl ⟨_, _, rfl, run_takeDeferred (hdone 0 6 hK), ?_⟩⟩
        have d0 := cell_kept (hRs 0 6).1 (grownBy_putObj' _ D (.deferred none)) (fun r e => by cases e; exact ⟨_, hdone 0 6 hK, rfl⟩)
        have d1 := cell_kept (hRs 0 6).2 (grownBy_putObj' _ D (.deferred none)) (fun r e => by cases e; exact ⟨_, hdone 0 6 hK, rfl⟩)
        exact ⟨.tuple #[.int .i64 0, .int .i64 6], by simp [results, Tryd.results20, go_sem, d0, d1], by rw [hR.out],
          ((hB.setCell (p := ⟨w.heap.size + 1, 0, none⟩) (by simp) _).setCell (p := ⟨w.heap.size + 1 + 1, 0, none⟩) (by simp; omega) _).trans (belowK_b (w := w) (Nat.le_refl _) _ D _ _ (by omega) (hdone 0 6 hK) rfl rfl)⟩
    | false =>
      by_cases hx : x < 9223372036854775808
      · have hR : iR false x = (x, 0) := by unfold iR; rw [if_neg (by simp), if_pos hx]
        have hw : IntKind.i64.wrap x = x := by
          rw [IntKind.wrap_i64]; omega
        replace hR := Lib.hid hR
        gi_wp2
        refine ⟨by simp, .inl ⟨_, _, rfl, run_takeDeferred (hdone x 0 hK), ?_⟩⟩
        have d0 := cell_kept (hRs x 0).1 (grownBy_putObj' _ D (.deferred none)) (fun r e => by cases e; exact ⟨_, hdone x 0 hK, rfl⟩)
        have d1 := cell_kept (hRs x 0).2 (grownBy_putObj' _ D (.deferred none)) (fun r e => by cases e; exact ⟨_, hdone x 0 hK, rfl⟩)
        exact ⟨.tuple #[.int .i64 x, .int .i64 0], by simp [results, Tryd.results20, go_sem, d0, d1], by rw [hR.out],
          ((hB.setCell (p := ⟨w.heap.size + 1, 0, none⟩) (by simp) _).setCell (p := ⟨w.heap.size + 1 + 1, 0, none⟩) (by simp; omega) _).trans (belowK_b (w := w) (Nat.le_refl _) _ D _ _ (by omega) (hdone x 0 hK) rfl rfl)⟩
      · have hR : iR false x = (0, 6) := by unfold iR; rw [if_neg (by simp), if_neg hx]
        replace hR := Lib.hid hR
        gi_wp2
        refine ⟨by simp, .inl ⟨_, _, rfl, run_takeDeferred (hdone 0 6 hK), ?_⟩⟩
        have d0 := cell_kept (hRs 0 6).1 (grownBy_putObj' _ D (.deferred none)) (fun r e => by cases e; exact ⟨_, hdone 0 6 hK, rfl⟩)
        have d1 := cell_kept (hRs 0 6).2 (grownBy_putObj' _ D (.deferred none)) (fun r e => by cases e; exact ⟨_, hdone 0 6 hK, rfl⟩)
        exact ⟨.tuple #[.int .i64 0, .int .i64 6], by simp [results, Tryd.results20, go_sem, d0, d1], by rw [hR.out],
          ((hB.setCell (p := ⟨w.heap.size + 1, 0, none⟩) (by simp) _).setCell (p := ⟨w.heap.size + 1 + 1, 0, none⟩) (by simp; omega) _).trans (belowK_b (w := w) (Nat.le_refl _) _ D _ _ (by omega) (hdone 0 6 hK) rfl rfl)⟩
  case stop =>
    rintro D c pre W hD ⟨k, hk, rfl⟩ ⟨rfl, hge, ⟨h2, h4⟩, hB, hs⟩ hK
    have hxx := Hfle.out k hk
    have hR : iR b x = (0, 6) := by unfold iR; cases b <;> simp <;> omega
    replace hR := Lib.hid hR
    clear Hfn Hfle Hd HqW hW hB0 hcs
    gi_wp2
    refine ⟨by simp, .inl ⟨_, _, rfl, run_takeDeferred hK, ?_⟩⟩
    have d0 := cell_kept h2 (grownBy_putObj' _ D (.deferred none)) (fun r e => by cases e; exact ⟨_, hK, rfl⟩)
    have d1 := cell_kept h4 (grownBy_putObj' _ D (.deferred none)) (fun r e => by cases e; exact ⟨_, hK, rfl⟩)
    exact ⟨.tuple #[.int .i64 0, .int .i64 6], by simp [results, Tryd.results20, go_sem, d0, d1], by rw [hR.out],
      hB.trans (belowK_b (w := w) (Nat.le_refl _) _ D _ _ (by omega) hK rfl rfl)⟩
/-- What Int gives for a number. -/
def intR (z : Int) : Int × Int := if -9223372036854775808 ≤ z ∧ z ≤ 9223372036854775807 then (z, 0) else (0, 6)
theorem int_num (A : Value) (z : Int) (w : World) (hA : Lg w A z) (l1 : (dg (z.natAbs : Int)).length ≤ 600) :
    Calls Tryd.prog 20 #[A] w fun e w' => e = .returned (.tuple #[.int .i64 (intR z).1, .int .i64 (intR z).2]) ∧ Below w.heap.size w w' := by
  obtain ⟨s1, rfl, h1⟩ := hA
  have := int_raw (decide (z < 0)) s1 _ w (by omega) h1 l1 (ckL_num l1)
  have e : iR (decide (z < 0)) (z.natAbs : Int) = intR z := by
    unfold iR intR
    by_cases h : z < 0
    · rw [if_pos (by simpa using h)]
      by_cases h' : -9223372036854775808 ≤ z
      · rw [if_pos (by omega), if_pos (by omega)]; congr 1; omega
      · rw [if_neg (by omega), if_neg (by omega)]
    · rw [if_neg (by simpa using h)]
      by_cases h' : z ≤ 9223372036854775807
      · rw [if_pos (by omega), if_pos (by omega)]; congr 1; omega
      · rw [if_neg (by omega), if_neg (by omega)]
  rwa [e] at this
end Go.Proofs.YthhbnhdejbpjiaaDoor
