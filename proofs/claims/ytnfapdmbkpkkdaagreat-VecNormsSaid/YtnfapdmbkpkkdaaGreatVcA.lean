/-
  Package vec: boxes; the calculator, which keeps the first error.
-/
import Derived.Test.YtnfapdmbkpkkdaaGreatSpF
namespace Go.Proofs.YtnfapdmbkpkkdaaGreat
open Go.RowKit

theorem heapNew (w : World) (o : Obj) : (w.alloc o).heap[w.heap.size]? = some o := by
  show (w.heap.push o)[w.heap.size]? = _
  simp
/-- Block g is a box. -/
def Bn (w : World) (g : Nat) (xs : Array Value) (t : TypeId) : Prop := w.heap[g]? = some (.cells xs t (0, 0))
theorem Bn.new (w : World) (xs : Array Value) (t : TypeId) : Bn (w.alloc (.cells xs t)) w.heap.size xs t := heapNew w _
theorem Bn.lt {w : World} {g : Nat} {xs : Array Value} {t : TypeId} (h : Bn w g xs t) : g < w.heap.size := (Array.getElem?_eq_some_iff.1 h).1
theorem Bn.keep {w w' : World} {g : Nat} {xs : Array Value} {t : TypeId} (h : Bn w g xs t) (hb : Below w.heap.size w w') : Bn w' g xs t := by
  have hl := h.lt
  unfold Bn at *
  rw [hb.block g hl]; exact h
theorem Bn.alloc {w : World} {g : Nat} {xs : Array Value} {t : TypeId} (h : Bn w g xs t) (o : Obj) : Bn (w.alloc o) g xs t := h.keep ((Below.refl _ _).alloc (Nat.le_refl _) o)
theorem Bn.drewI {w : World} {g : Nat} {xs : Array Value} {t : TypeId} (h : Bn w g xs t) : Bn w.drew g xs t := h
theorem Bn.cell {w : World} {g : Nat} {xs : Array Value} {t : TypeId} (h : Bn w g xs t) (i : Nat) (x : Value) (hx : xs[i]? = some x) : w.cell? ⟨g, i, none⟩ = some x := by
  rw [cell_of_row w g i xs t (0, 0) h]; exact hx
theorem Bn.f {w : World} {g : Nat} {xs : Array Value} {t : TypeId} (h : Bn w g xs t) (i : Nat) : w.frozen? ⟨g, i, none⟩ = false := frozen_of_row w g i xs t h
/-- Every block but c is as it was. -/
structure Ke (c : Nat) (w w' : World) : Prop where
  os : w'.os = w.os
  tape : w'.tape = w.tape
  output : w'.output = w.output
  size : w.heap.size ≤ w'.heap.size
  block : ∀ k, k < w.heap.size → k ≠ c → w'.heap[k]? = w.heap[k]?
theorem Ke.refl (c : Nat) (w : World) : Ke c w w := ⟨rfl, rfl, rfl, Nat.le_refl _, fun _ _ _ => rfl⟩
theorem Ke.trans {c : Nat} {u v w : World} (h : Ke c u v) (k : Ke c v w) : Ke c u w :=
  ⟨k.os.trans h.os, k.tape.trans h.tape, k.output.trans h.output, Nat.le_trans h.size k.size, fun i hi hn => (k.block i (Nat.lt_of_lt_of_le hi h.size) hn).trans (h.block i hi hn)⟩
theorem Ke.of {c : Nat} {w w' : World} (h : Below w.heap.size w w') : Ke c w w' := ⟨h.os, h.tape, h.output, h.size, fun k hk _ => h.block k hk⟩
theorem Ke.set (w : World) (c o : Nat) (u : Value) : Ke c w (w.setCell ⟨c, o, none⟩ u) :=
  ⟨rfl, rfl, rfl, by simp [World.setCell], fun k _ hn => Below.heap_setCell _ _ _ _ hn⟩
/-- Where the calculator is the call's own. -/
theorem Ke.below {c B : Nat} {v w w' : World} (h : Ke c w w') (hB : Below B v w) (hc : B ≤ c) (hs : B ≤ w.heap.size) : Below B v w' :=
  hB.trans ⟨h.os, h.tape, h.output, h.size, fun k hk => h.block k (by omega) (by omega)⟩
theorem Ke.cellK {c : Nat} {w w' : World} (h : Ke c w w') {p : Addr} {x : Value} (hc : w.cell? p = some x) (hn : p.block ≠ c) : w'.cell? p = some x :=
  (World.cell?_of_block (w := w) (h.block p.block (World.block_lt_of_cell? w p hc) hn)).trans hc
theorem Ke.put {c g : Nat} {w u : World} (h : Ke c w u) (hg : w.heap.size ≤ g) (o : Nat) (x : Value) : Ke c w (u.setCell ⟨g, o, none⟩ x) :=
  ⟨h.os, h.tape, h.output, by rw [World.size_setCell]; exact h.size, fun k hk hn => (Below.heap_setCell u ⟨g, o, none⟩ x k (by show k ≠ g; omega)).trans (h.block k hk hn)⟩
theorem Ke.alloc {c : Nat} {w u : World} (h : Ke c w u) (o : Obj) : Ke c w (u.alloc o) := h.trans (Ke.of ((Below.refl _ _).alloc (Nat.le_refl _) o))
theorem Ke.drewI {c : Nat} {w u : World} (h : Ke c w u) : Ke c w u.drew := ⟨h.os, h.tape, h.output, h.size, h.block⟩
theorem Ke.thenB {c : Nat} {w u v : World} (h : Ke c w u) (hb : Below u.heap.size u v) : Ke c w v := h.trans (Ke.of hb)
theorem Bn.far {w : World} {g h : Nat} {xs : Array Value} {t : TypeId} (k : Bn w h xs t) (hn : h ≠ g) (o : Nat) (x : Value) : Bn (w.setCell ⟨g, o, none⟩ x) h xs t := by
  unfold Bn at *
  rw [Below.heap_setCell w ⟨g, o, none⟩ x h hn]; exact k
theorem Bn.ke {w w' : World} {g c : Nat} {xs : Array Value} {t : TypeId} (h : Bn w g xs t) (hn : g ≠ c) (k : Ke c w w') : Bn w' g xs t := by
  have hl := h.lt
  unfold Bn at *
  rw [k.block g hl hn]; exact h
/-- Block c is a calculator whose first error is e. -/
def Cl (w : World) (c : Nat) (e : Int) : Prop := Bn w c #[.int .i64 e] 80
theorem Cl.keep {w w' : World} {c : Nat} {e : Int} (h : Cl w c e) (hb : Below w.heap.size w w') : Cl w' c e := Bn.keep h hb
theorem Cl.alloc {w : World} {c : Nat} {e : Int} (h : Cl w c e) (o : Obj) : Cl (w.alloc o) c e := Bn.alloc h o
theorem Cl.lt {w : World} {c : Nat} {e : Int} (h : Cl w c e) : c < w.heap.size := Bn.lt h
theorem Cl.cell {w : World} {c : Nat} {e : Int} (h : Cl w c e) : w.cell? ⟨c, 0, none⟩ = some (.int .i64 e) := Bn.cell h 0 _ rfl
theorem Cl.f {w : World} {c : Nat} {e : Int} (h : Cl w c e) : w.frozen? ⟨c, 0, none⟩ = false := Bn.f h 0
theorem Cl.set {w : World} {c : Nat} {e : Int} (h : Cl w c e) (x : Int) : Cl (w.setCell ⟨c, 0, none⟩ (.int .i64 x)) c x := by
  have := heap_setCell_same w c 0 _ 80 (.int .i64 x) h
  unfold Cl Bn
  rw [this]; rfl
/-- The first of two errors. -/
def fo (e x : Int) : Int := if e = 0 then x else e
theorem vNote_any (c : Nat) (e x : Int) (w : World) (h : Cl w c e) :
    Calls Tryz.prog 67 #[.pointer (some ⟨c, 0, none⟩), .int .i64 x] w fun r w' => r = .returned (.tuple #[]) ∧ Cl w' c (fo e x) ∧ Ke c w w' := by
  have r0 := h.cell
  have z0 := h.f
  have l0 := h.lt
  by_cases h0 : e = 0
  · subst h0
    have h' := h.set x
    rw [show fo 0 x = x from if_pos rfl]
    have hH := Lib.hid h'
    clear h h'
    go_enter Tryz.func67, Tryz.ntmps67
    go_wp2
    go_end0
    exact ⟨rfl, hH.out, Ke.set _ _ _ _⟩
  · rw [show fo e x = e from if_neg h0]
    go_enter Tryz.func67, Tryz.ntmps67
    go_wp2
    go_end0
    exact ⟨rfl, h, Ke.refl _ _⟩
theorem vKeep_any (c : Nat) (e l h x : Int) (w : World) (hC : Cl w c e) :
    Calls Tryz.prog 68 #[.pointer (some ⟨c, 0, none⟩), .agg #[.int .i64 l, .int .i64 h], .int .i64 x] w fun r w' => r = .returned (.agg #[.int .i64 l, .int .i64 h]) ∧ Cl w' c (fo e x) ∧ Ke c w w' := by
  have b1 := (Bn.new w #[.int .i64 l, .int .i64 h] 23).alloc (.cells #[.int .i64 0, .int .i64 0] 23)
  have b2 := Bn.new (w.alloc (.cells #[.int .i64 l, .int .i64 h] 23)) #[.int .i64 0, .int .i64 0] 23
  have hC2 := (hC.alloc (.cells #[.int .i64 l, .int .i64 h] 23)).alloc (.cells #[.int .i64 0, .int .i64 0] 23)
  have l0 := hC.lt
  have hk0 : Ke c w ((w.alloc (.cells #[.int .i64 l, .int .i64 h] 23)).alloc (.cells #[.int .i64 0, .int .i64 0] 23)) := Ke.of (by (repeat (first | with_reducible exact Below.refl _ _ | with_reducible assumption | refine Below.alloc ?_ (by (try simp); try omega) _ | refine Below.setCell ?_ (by (try simp); try omega) _ | refine below_drewN ?_ _ | refine Below.drew ?_ | (with_reducible refine Below.trans ?_ (Below.mono (by assumption) (by (try simp); try omega))))))
  rw [show (w.alloc (.cells #[.int .i64 l, .int .i64 h] 23)).heap.size = w.heap.size + 1 by simp] at b2
  go_enter Tryz.func68, Tryz.ntmps68
  go_wp2_with fail
  go_at_call 67
  refine (vNote_any c e x _ hC2).mono ?_
  rintro r u ⟨rfl, hC3, hk⟩
  replace b1 := b1.ke (by omega) hk
  replace b2 := b2.ke (by omega) hk
  replace hk := hk0.trans hk
  clear hk0 hC2 hC
  have r0 := b1.cell 0 _ rfl
  have r1 := b1.cell 1 _ rfl
  have s0 := b2.cell 0 _ rfl
  have s1 := b2.cell 1 _ rfl
  have z0 := b2.f 0
  have z1 := b2.f 1
  have l2 := b2.lt
  go_wp2
  refine bodyPost_ret (v := .agg #[.int .i64 l, .int .i64 h]) (by simp [results, Tryz.results68, go_sem, s0, s1, z0, z1, l2]) rfl ⟨rfl, ?_, ?_⟩
  · exact (Bn.far hC3 (by omega) _ _).far (by omega) _ _
  · exact (hk.put (by omega) _ _).put (by omega) _ _
theorem vAdd_any (p : Nat) (e a b c d : Int) (w : World) (hC : Cl w p e) :
    Calls Tryz.prog 38 #[.pointer (some ⟨p, 0, none⟩), .agg #[.int .i64 a, .int .i64 b], .agg #[.int .i64 c, .int .i64 d]] w fun r w' => r = .returned (.agg #[.int .i64 (sAddR a b c d).1, .int .i64 (sAddR a b c d).2.1]) ∧ Cl w' p (fo e (sAddR a b c d).2.2) ∧ Ke p w w' := by
  have hs := fun w => sAdd_any a b c d w
  generalize sAddR a b c d = m at *
  have b2 := (Bn.new ((w.alloc (.cells #[.int .i64 a, .int .i64 b] 23)).alloc (.cells #[.int .i64 c, .int .i64 d] 23)) #[.int .i64 0, .int .i64 0] 23)
  rw [show ((w.alloc (.cells #[.int .i64 a, .int .i64 b] 23)).alloc (.cells #[.int .i64 c, .int .i64 d] 23)).heap.size = w.heap.size + 2 by simp] at b2
  have hC2 := (((hC.alloc (.cells #[.int .i64 a, .int .i64 b] 23)).alloc (.cells #[.int .i64 c, .int .i64 d] 23)).alloc (.cells #[.int .i64 0, .int .i64 0] 23))
  have l0 := hC.lt
  have hk0 : Ke p w (((w.alloc (.cells #[.int .i64 a, .int .i64 b] 23)).alloc (.cells #[.int .i64 c, .int .i64 d] 23)).alloc (.cells #[.int .i64 0, .int .i64 0] 23)) := Ke.of (by (repeat (first | with_reducible exact Below.refl _ _ | with_reducible assumption | refine Below.alloc ?_ (by (try simp); try omega) _ | refine Below.setCell ?_ (by (try simp); try omega) _ | refine below_drewN ?_ _ | refine Below.drew ?_ | (with_reducible refine Below.trans ?_ (Below.mono (by assumption) (by (try simp); try omega))))))
  go_enter Tryz.func38, Tryz.ntmps38
  go_wp2_with fail
  go_at_call 69
  refine (hs _).mono ?_
  rintro r u ⟨rfl, hb⟩
  replace b2 := b2.keep hb
  replace hC2 := hC2.keep hb
  replace hk0 := hk0.thenB hb
  clear hb hs hC
  go_wp2_with fail
  go_at_call 68
  refine (vKeep_any p e _ _ _ _ hC2).mono ?_
  rintro r v ⟨rfl, hC3, hk⟩
  replace b2 := b2.ke (by omega) hk
  replace hk := hk0.trans hk
  clear hk0 hC2
  have s0 := b2.cell 0 _ rfl
  have s1 := b2.cell 1 _ rfl
  have z0 := b2.f 0
  have z1 := b2.f 1
  have l2 := b2.lt
  go_wp2
  refine bodyPost_ret (v := .agg #[.int .i64 m.1, .int .i64 m.2.1]) (by simp [results, Tryz.results38, go_sem, s0, s1, z0, z1, l2]) rfl ⟨rfl, ?_, ?_⟩
  · exact (Bn.far hC3 (by omega) _ _).far (by omega) _ _
  · exact (hk.put (by omega) _ _).put (by omega) _ _
theorem vSub_any (p : Nat) (e a b c d : Int) (w : World) (hC : Cl w p e) :
    Calls Tryz.prog 42 #[.pointer (some ⟨p, 0, none⟩), .agg #[.int .i64 a, .int .i64 b], .agg #[.int .i64 c, .int .i64 d]] w fun r w' => r = .returned (.agg #[.int .i64 (sSubR a b c d).1, .int .i64 (sSubR a b c d).2.1]) ∧ Cl w' p (fo e (sSubR a b c d).2.2) ∧ Ke p w w' := by
  have hs := fun w => sSub_any a b c d w
  generalize sSubR a b c d = m at *
  have b2 := (Bn.new ((w.alloc (.cells #[.int .i64 a, .int .i64 b] 23)).alloc (.cells #[.int .i64 c, .int .i64 d] 23)) #[.int .i64 0, .int .i64 0] 23)
  rw [show ((w.alloc (.cells #[.int .i64 a, .int .i64 b] 23)).alloc (.cells #[.int .i64 c, .int .i64 d] 23)).heap.size = w.heap.size + 2 by simp] at b2
  have hC2 := (((hC.alloc (.cells #[.int .i64 a, .int .i64 b] 23)).alloc (.cells #[.int .i64 c, .int .i64 d] 23)).alloc (.cells #[.int .i64 0, .int .i64 0] 23))
  have l0 := hC.lt
  have hk0 : Ke p w (((w.alloc (.cells #[.int .i64 a, .int .i64 b] 23)).alloc (.cells #[.int .i64 c, .int .i64 d] 23)).alloc (.cells #[.int .i64 0, .int .i64 0] 23)) := Ke.of (by (repeat (first | with_reducible exact Below.refl _ _ | with_reducible assumption | refine Below.alloc ?_ (by (try simp); try omega) _ | refine Below.setCell ?_ (by (try simp); try omega) _ | refine below_drewN ?_ _ | refine Below.drew ?_ | (with_reducible refine Below.trans ?_ (Below.mono (by assumption) (by (try simp); try omega))))))
  go_enter Tryz.func42, Tryz.ntmps42
  go_wp2_with fail
  go_at_call 72
  refine (hs _).mono ?_
  rintro r u ⟨rfl, hb⟩
  replace b2 := b2.keep hb
  replace hC2 := hC2.keep hb
  replace hk0 := hk0.thenB hb
  clear hb hs hC
  go_wp2_with fail
  go_at_call 68
  refine (vKeep_any p e _ _ _ _ hC2).mono ?_
  rintro r v ⟨rfl, hC3, hk⟩
  replace b2 := b2.ke (by omega) hk
  replace hk := hk0.trans hk
  clear hk0 hC2
  have s0 := b2.cell 0 _ rfl
  have s1 := b2.cell 1 _ rfl
  have z0 := b2.f 0
  have z1 := b2.f 1
  have l2 := b2.lt
  go_wp2
  refine bodyPost_ret (v := .agg #[.int .i64 m.1, .int .i64 m.2.1]) (by simp [results, Tryz.results42, go_sem, s0, s1, z0, z1, l2]) rfl ⟨rfl, ?_, ?_⟩
  · exact (Bn.far hC3 (by omega) _ _).far (by omega) _ _
  · exact (hk.put (by omega) _ _).put (by omega) _ _
theorem vMul_any (p : Nat) (e a b c d : Int) (w : World) (hC : Cl w p e) :
    Calls Tryz.prog 49 #[.pointer (some ⟨p, 0, none⟩), .agg #[.int .i64 a, .int .i64 b], .agg #[.int .i64 c, .int .i64 d]] w fun r w' => r = .returned (.agg #[.int .i64 (sMulR a b c d).1, .int .i64 (sMulR a b c d).2.1]) ∧ Cl w' p (fo e (sMulR a b c d).2.2) ∧ Ke p w w' := by
  have hs := fun w => sMul_any a b c d w
  generalize sMulR a b c d = m at *
  have b2 := (Bn.new ((w.alloc (.cells #[.int .i64 a, .int .i64 b] 23)).alloc (.cells #[.int .i64 c, .int .i64 d] 23)) #[.int .i64 0, .int .i64 0] 23)
  rw [show ((w.alloc (.cells #[.int .i64 a, .int .i64 b] 23)).alloc (.cells #[.int .i64 c, .int .i64 d] 23)).heap.size = w.heap.size + 2 by simp] at b2
  have hC2 := (((hC.alloc (.cells #[.int .i64 a, .int .i64 b] 23)).alloc (.cells #[.int .i64 c, .int .i64 d] 23)).alloc (.cells #[.int .i64 0, .int .i64 0] 23))
  have l0 := hC.lt
  have hk0 : Ke p w (((w.alloc (.cells #[.int .i64 a, .int .i64 b] 23)).alloc (.cells #[.int .i64 c, .int .i64 d] 23)).alloc (.cells #[.int .i64 0, .int .i64 0] 23)) := Ke.of (by (repeat (first | with_reducible exact Below.refl _ _ | with_reducible assumption | refine Below.alloc ?_ (by (try simp); try omega) _ | refine Below.setCell ?_ (by (try simp); try omega) _ | refine below_drewN ?_ _ | refine Below.drew ?_ | (with_reducible refine Below.trans ?_ (Below.mono (by assumption) (by (try simp); try omega))))))
  go_enter Tryz.func49, Tryz.ntmps49
  go_wp2_with fail
  go_at_call 75
  refine (hs _).mono ?_
  rintro r u ⟨rfl, hb⟩
  replace b2 := b2.keep hb
  replace hC2 := hC2.keep hb
  replace hk0 := hk0.thenB hb
  clear hb hs hC
  go_wp2_with fail
  go_at_call 68
  refine (vKeep_any p e _ _ _ _ hC2).mono ?_
  rintro r v ⟨rfl, hC3, hk⟩
  replace b2 := b2.ke (by omega) hk
  replace hk := hk0.trans hk
  clear hk0 hC2
  have s0 := b2.cell 0 _ rfl
  have s1 := b2.cell 1 _ rfl
  have z0 := b2.f 0
  have z1 := b2.f 1
  have l2 := b2.lt
  go_wp2
  refine bodyPost_ret (v := .agg #[.int .i64 m.1, .int .i64 m.2.1]) (by simp [results, Tryz.results49, go_sem, s0, s1, z0, z1, l2]) rfl ⟨rfl, ?_, ?_⟩
  · exact (Bn.far hC3 (by omega) _ _).far (by omega) _ _
  · exact (hk.put (by omega) _ _).put (by omega) _ _
theorem vDiv_any (p : Nat) (e a b c d : Int) (w : World) (hC : Cl w p e) :
    Calls Tryz.prog 60 #[.pointer (some ⟨p, 0, none⟩), .agg #[.int .i64 a, .int .i64 b], .agg #[.int .i64 c, .int .i64 d]] w fun r w' => r = .returned (.agg #[.int .i64 (sDivR a b c d).1, .int .i64 (sDivR a b c d).2.1]) ∧ Cl w' p (fo e (sDivR a b c d).2.2) ∧ Ke p w w' := by
  have hs := fun w => sDiv_any a b c d w
  generalize sDivR a b c d = m at *
  have b2 := (Bn.new ((w.alloc (.cells #[.int .i64 a, .int .i64 b] 23)).alloc (.cells #[.int .i64 c, .int .i64 d] 23)) #[.int .i64 0, .int .i64 0] 23)
  rw [show ((w.alloc (.cells #[.int .i64 a, .int .i64 b] 23)).alloc (.cells #[.int .i64 c, .int .i64 d] 23)).heap.size = w.heap.size + 2 by simp] at b2
  have hC2 := (((hC.alloc (.cells #[.int .i64 a, .int .i64 b] 23)).alloc (.cells #[.int .i64 c, .int .i64 d] 23)).alloc (.cells #[.int .i64 0, .int .i64 0] 23))
  have l0 := hC.lt
  have hk0 : Ke p w (((w.alloc (.cells #[.int .i64 a, .int .i64 b] 23)).alloc (.cells #[.int .i64 c, .int .i64 d] 23)).alloc (.cells #[.int .i64 0, .int .i64 0] 23)) := Ke.of (by (repeat (first | with_reducible exact Below.refl _ _ | with_reducible assumption | refine Below.alloc ?_ (by (try simp); try omega) _ | refine Below.setCell ?_ (by (try simp); try omega) _ | refine below_drewN ?_ _ | refine Below.drew ?_ | (with_reducible refine Below.trans ?_ (Below.mono (by assumption) (by (try simp); try omega))))))
  go_enter Tryz.func60, Tryz.ntmps60
  go_wp2_with fail
  go_at_call 83
  refine (hs _).mono ?_
  rintro r u ⟨rfl, hb⟩
  replace b2 := b2.keep hb
  replace hC2 := hC2.keep hb
  replace hk0 := hk0.thenB hb
  clear hb hs hC
  go_wp2_with fail
  go_at_call 68
  refine (vKeep_any p e _ _ _ _ hC2).mono ?_
  rintro r v ⟨rfl, hC3, hk⟩
  replace b2 := b2.ke (by omega) hk
  replace hk := hk0.trans hk
  clear hk0 hC2
  have s0 := b2.cell 0 _ rfl
  have s1 := b2.cell 1 _ rfl
  have z0 := b2.f 0
  have z1 := b2.f 1
  have l2 := b2.lt
  go_wp2
  refine bodyPost_ret (v := .agg #[.int .i64 m.1, .int .i64 m.2.1]) (by simp [results, Tryz.results60, go_sem, s0, s1, z0, z1, l2]) rfl ⟨rfl, ?_, ?_⟩
  · exact (Bn.far hC3 (by omega) _ _).far (by omega) _ _
  · exact (hk.put (by omega) _ _).put (by omega) _ _
theorem vNeg_any (p : Nat) (e a b : Int) (w : World) (hC : Cl w p e) :
    Calls Tryz.prog 45 #[.pointer (some ⟨p, 0, none⟩), .agg #[.int .i64 a, .int .i64 b]] w fun r w' => r = .returned (.agg #[.int .i64 (sNegR a b).1, .int .i64 (sNegR a b).2.1]) ∧ Cl w' p (fo e (sNegR a b).2.2) ∧ Ke p w w' := by
  have hs := fun w => sNeg_any a b w
  generalize sNegR a b = m at *
  have b1 := (Bn.new (w.alloc (.cells #[.int .i64 a, .int .i64 b] 23)) #[.int .i64 0, .int .i64 0] 23)
  rw [show (w.alloc (.cells #[.int .i64 a, .int .i64 b] 23)).heap.size = w.heap.size + 1 by simp] at b1
  have hC2 := ((hC.alloc (.cells #[.int .i64 a, .int .i64 b] 23)).alloc (.cells #[.int .i64 0, .int .i64 0] 23))
  have l0 := hC.lt
  have hk0 : Ke p w ((w.alloc (.cells #[.int .i64 a, .int .i64 b] 23)).alloc (.cells #[.int .i64 0, .int .i64 0] 23)) := Ke.of (by (repeat (first | with_reducible exact Below.refl _ _ | with_reducible assumption | refine Below.alloc ?_ (by (try simp); try omega) _ | refine Below.setCell ?_ (by (try simp); try omega) _ | refine below_drewN ?_ _ | refine Below.drew ?_ | (with_reducible refine Below.trans ?_ (Below.mono (by assumption) (by (try simp); try omega))))))
  go_enter Tryz.func45, Tryz.ntmps45
  go_wp2_with fail
  go_at_call 73
  refine (hs _).mono ?_
  rintro r u ⟨rfl, hb⟩
  replace b1 := b1.keep hb
  replace hC2 := hC2.keep hb
  replace hk0 := hk0.thenB hb
  clear hb hs hC
  go_wp2_with fail
  go_at_call 68
  refine (vKeep_any p e _ _ _ _ hC2).mono ?_
  rintro r v ⟨rfl, hC3, hk⟩
  replace b1 := b1.ke (by omega) hk
  replace hk := hk0.trans hk
  clear hk0 hC2
  have s0 := b1.cell 0 _ rfl
  have s1 := b1.cell 1 _ rfl
  have z0 := b1.f 0
  have z1 := b1.f 1
  have l2 := b1.lt
  go_wp2
  refine bodyPost_ret (v := .agg #[.int .i64 m.1, .int .i64 m.2.1]) (by simp [results, Tryz.results45, go_sem, s0, s1, z0, z1, l2]) rfl ⟨rfl, ?_, ?_⟩
  · exact (Bn.far hC3 (by omega) _ _).far (by omega) _ _
  · exact (hk.put (by omega) _ _).put (by omega) _ _
theorem vSqr_any (p : Nat) (e a b : Int) (w : World) (hC : Cl w p e) :
    Calls Tryz.prog 80 #[.pointer (some ⟨p, 0, none⟩), .agg #[.int .i64 a, .int .i64 b]] w fun r w' => r = .returned (.agg #[.int .i64 (sSqrR a b).1, .int .i64 (sSqrR a b).2.1]) ∧ Cl w' p (fo e (sSqrR a b).2.2) ∧ Ke p w w' := by
  have hs := fun w => sSqr_any a b w
  generalize sSqrR a b = m at *
  have b1 := (Bn.new (w.alloc (.cells #[.int .i64 a, .int .i64 b] 23)) #[.int .i64 0, .int .i64 0] 23)
  rw [show (w.alloc (.cells #[.int .i64 a, .int .i64 b] 23)).heap.size = w.heap.size + 1 by simp] at b1
  have hC2 := ((hC.alloc (.cells #[.int .i64 a, .int .i64 b] 23)).alloc (.cells #[.int .i64 0, .int .i64 0] 23))
  have l0 := hC.lt
  have hk0 : Ke p w ((w.alloc (.cells #[.int .i64 a, .int .i64 b] 23)).alloc (.cells #[.int .i64 0, .int .i64 0] 23)) := Ke.of (by (repeat (first | with_reducible exact Below.refl _ _ | with_reducible assumption | refine Below.alloc ?_ (by (try simp); try omega) _ | refine Below.setCell ?_ (by (try simp); try omega) _ | refine below_drewN ?_ _ | refine Below.drew ?_ | (with_reducible refine Below.trans ?_ (Below.mono (by assumption) (by (try simp); try omega))))))
  go_enter Tryz.func80, Tryz.ntmps80
  go_wp2_with fail
  go_at_call 94
  refine (hs _).mono ?_
  rintro r u ⟨rfl, hb⟩
  replace b1 := b1.keep hb
  replace hC2 := hC2.keep hb
  replace hk0 := hk0.thenB hb
  clear hb hs hC
  go_wp2_with fail
  go_at_call 68
  refine (vKeep_any p e _ _ _ _ hC2).mono ?_
  rintro r v ⟨rfl, hC3, hk⟩
  replace b1 := b1.ke (by omega) hk
  replace hk := hk0.trans hk
  clear hk0 hC2
  have s0 := b1.cell 0 _ rfl
  have s1 := b1.cell 1 _ rfl
  have z0 := b1.f 0
  have z1 := b1.f 1
  have l2 := b1.lt
  go_wp2
  refine bodyPost_ret (v := .agg #[.int .i64 m.1, .int .i64 m.2.1]) (by simp [results, Tryz.results80, go_sem, s0, s1, z0, z1, l2]) rfl ⟨rfl, ?_, ?_⟩
  · exact (Bn.far hC3 (by omega) _ _).far (by omega) _ _
  · exact (hk.put (by omega) _ _).put (by omega) _ _
theorem vSqrt_any (p : Nat) (e a b : Int) (w : World) (hC : Cl w p e) :
    Calls Tryz.prog 79 #[.pointer (some ⟨p, 0, none⟩), .agg #[.int .i64 a, .int .i64 b]] w fun r w' => r = .returned (.agg #[.int .i64 (sSqrtR a b).1, .int .i64 (sSqrtR a b).2.1]) ∧ Cl w' p (fo e (sSqrtR a b).2.2) ∧ Ke p w w' := by
  have hs := fun w => sSqrt_any a b w
  generalize sSqrtR a b = m at *
  have b1 := (Bn.new (w.alloc (.cells #[.int .i64 a, .int .i64 b] 23)) #[.int .i64 0, .int .i64 0] 23)
  rw [show (w.alloc (.cells #[.int .i64 a, .int .i64 b] 23)).heap.size = w.heap.size + 1 by simp] at b1
  have hC2 := ((hC.alloc (.cells #[.int .i64 a, .int .i64 b] 23)).alloc (.cells #[.int .i64 0, .int .i64 0] 23))
  have l0 := hC.lt
  have hk0 : Ke p w ((w.alloc (.cells #[.int .i64 a, .int .i64 b] 23)).alloc (.cells #[.int .i64 0, .int .i64 0] 23)) := Ke.of (by (repeat (first | with_reducible exact Below.refl _ _ | with_reducible assumption | refine Below.alloc ?_ (by (try simp); try omega) _ | refine Below.setCell ?_ (by (try simp); try omega) _ | refine below_drewN ?_ _ | refine Below.drew ?_ | (with_reducible refine Below.trans ?_ (Below.mono (by assumption) (by (try simp); try omega))))))
  go_enter Tryz.func79, Tryz.ntmps79
  go_wp2_with fail
  go_at_call 93
  refine (hs _).mono ?_
  rintro r u ⟨rfl, hb⟩
  replace b1 := b1.keep hb
  replace hC2 := hC2.keep hb
  replace hk0 := hk0.thenB hb
  clear hb hs hC
  go_wp2_with fail
  go_at_call 68
  refine (vKeep_any p e _ _ _ _ hC2).mono ?_
  rintro r v ⟨rfl, hC3, hk⟩
  replace b1 := b1.ke (by omega) hk
  replace hk := hk0.trans hk
  clear hk0 hC2
  have s0 := b1.cell 0 _ rfl
  have s1 := b1.cell 1 _ rfl
  have z0 := b1.f 0
  have z1 := b1.f 1
  have l2 := b1.lt
  go_wp2
  refine bodyPost_ret (v := .agg #[.int .i64 m.1, .int .i64 m.2.1]) (by simp [results, Tryz.results79, go_sem, s0, s1, z0, z1, l2]) rfl ⟨rfl, ?_, ?_⟩
  · exact (Bn.far hC3 (by omega) _ _).far (by omega) _ _
  · exact (hk.put (by omega) _ _).put (by omega) _ _
end Go.Proofs.YtnfapdmbkpkkdaaGreat
