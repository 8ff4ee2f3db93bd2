/-
  LongRoots: the walk.
-/
import Derived.Test.YtoppdbgodceaiaaDoorLrS
namespace Go.Proofs.YtoppdbgodceaiaaDoor
open Go.RowKit

theorem cell_far {w : World} {g o : Nat} {u : Value} {p : Addr} (h : p.block ≠ g) : (w.setCell ⟨g, o, none⟩ u).cell? p = w.cell? p := World.cell?_of_block (w := w) (Below.heap_setCell w ⟨g, o, none⟩ u p.block h)
theorem Lg.put1 {w : World} {V : Value} {z : Int} (L : Lg w V z) {g : Nat} {p : Bool} {a : Option Addr} {n k : Nat} {t : TypeId} (b : Bx w g (.bool p) (.slice a n k) t) (p' : Bool) : Lg (w.setCell ⟨g, 0, none⟩ (.bool p')) V z := by
  obtain ⟨s, rfl, h⟩ := L
  exact ⟨s, rfl, h.box b (nb _) (ns _ _ _) _⟩
set_option maxRecDepth 100000 in
set_option maxHeartbeats 16000000 in
theorem longRoots_true (b6 : Bool) (s6 : Value) (l6 : List Int) (b5 : Bool) (k5 : Int) (s5 : Value) (m5 : List Int) (w : World) (hP : Pw w) (L6 : Ls w s6 l6) (N6 : l6.length ≤ 9223372036854775807) (K50 : 0 ≤ k5) (K51 : k5 ≤ 255) (W5 : Wd w s5 m5) :
    Calls Tryd.prog 7 #[.agg #[.bool b6, s6], .agg #[.bool b5, .int .u8 k5, s5]] w fun e w' => e = .returned (.bool true) ∧ Below w.heap.size w w' := by
  have hxS := drShort_Dl (b := b5) (k := k5) (m := m5) (fun x hx => (W5.choose_spec.choose_spec.2.2.1 x hx).1)
  have hxL := drLong_Dl (b := b5) (k := k5) (m := m5) (fun x hx => (W5.choose_spec.choose_spec.2.2.1 x hx).1) K50
  have hi0 : ∀ (p0 : Bool) (a0 : Option Addr) (n0 c0 : Nat) (p1 : Bool) (a1 : Option Addr) (n1 c1 : Nat) (p2 : Bool) (a2 : Option Addr) (n2 c2 : Nat) (p3 : Bool) (a3 : Option Addr) (n3 c3 : Nat) (p4 : Bool) (a4 : Option Addr) (n4 c4 : Nat) w, (Instr.index 53 (.agg #[.bool p0, .slice a0 n0 c0, .bool p1, .slice a1 n1 c1, .bool p2, .slice a2 n2 c2, .bool p3, .slice a3 n3 c3, .bool p4, .slice a4 n4 c4]) (.int .i64 0)).run Tryd.prog w = .ok (.agg #[.bool p0, .slice a0 n0 c0]) w := fun _ _ _ _ _ _ _ _ _ _ _ _ _ _ _ _ _ _ _ _ _ => by kernel_rfl
  have hi1 : ∀ (p0 : Bool) (a0 : Option Addr) (n0 c0 : Nat) (p1 : Bool) (a1 : Option Addr) (n1 c1 : Nat) (p2 : Bool) (a2 : Option Addr) (n2 c2 : Nat) (p3 : Bool) (a3 : Option Addr) (n3 c3 : Nat) (p4 : Bool) (a4 : Option Addr) (n4 c4 : Nat) w, (Instr.index 53 (.agg #[.bool p0, .slice a0 n0 c0, .bool p1, .slice a1 n1 c1, .bool p2, .slice a2 n2 c2, .bool p3, .slice a3 n3 c3, .bool p4, .slice a4 n4 c4]) (.int .i64 1)).run Tryd.prog w = .ok (.agg #[.bool p1, .slice a1 n1 c1]) w := fun _ _ _ _ _ _ _ _ _ _ _ _ _ _ _ _ _ _ _ _ _ => by kernel_rfl
  have hi2 : ∀ (p0 : Bool) (a0 : Option Addr) (n0 c0 : Nat) (p1 : Bool) (a1 : Option Addr) (n1 c1 : Nat) (p2 : Bool) (a2 : Option Addr) (n2 c2 : Nat) (p3 : Bool) (a3 : Option Addr) (n3 c3 : Nat) (p4 : Bool) (a4 : Option Addr) (n4 c4 : Nat) w, (Instr.index 53 (.agg #[.bool p0, .slice a0 n0 c0, .bool p1, .slice a1 n1 c1, .bool p2, .slice a2 n2 c2, .bool p3, .slice a3 n3 c3, .bool p4, .slice a4 n4 c4]) (.int .i64 2)).run Tryd.prog w = .ok (.agg #[.bool p2, .slice a2 n2 c2]) w := fun _ _ _ _ _ _ _ _ _ _ _ _ _ _ _ _ _ _ _ _ _ => by kernel_rfl
  have hi3 : ∀ (p0 : Bool) (a0 : Option Addr) (n0 c0 : Nat) (p1 : Bool) (a1 : Option Addr) (n1 c1 : Nat) (p2 : Bool) (a2 : Option Addr) (n2 c2 : Nat) (p3 : Bool) (a3 : Option Addr) (n3 c3 : Nat) (p4 : Bool) (a4 : Option Addr) (n4 c4 : Nat) w, (Instr.index 53 (.agg #[.bool p0, .slice a0 n0 c0, .bool p1, .slice a1 n1 c1, .bool p2, .slice a2 n2 c2, .bool p3, .slice a3 n3 c3, .bool p4, .slice a4 n4 c4]) (.int .i64 3)).run Tryd.prog w = .ok (.agg #[.bool p3, .slice a3 n3 c3]) w := fun _ _ _ _ _ _ _ _ _ _ _ _ _ _ _ _ _ _ _ _ _ => by kernel_rfl
  have hi4 : ∀ (p0 : Bool) (a0 : Option Addr) (n0 c0 : Nat) (p1 : Bool) (a1 : Option Addr) (n1 c1 : Nat) (p2 : Bool) (a2 : Option Addr) (n2 c2 : Nat) (p3 : Bool) (a3 : Option Addr) (n3 c3 : Nat) (p4 : Bool) (a4 : Option Addr) (n4 c4 : Nat) w, (Instr.index 53 (.agg #[.bool p0, .slice a0 n0 c0, .bool p1, .slice a1 n1 c1, .bool p2, .slice a2 n2 c2, .bool p3, .slice a3 n3 c3, .bool p4, .slice a4 n4 c4]) (.int .i64 4)).run Tryd.prog w = .ok (.agg #[.bool p4, .slice a4 n4 c4]) w := fun _ _ _ _ _ _ _ _ _ _ _ _ _ _ _ _ _ _ _ _ _ => by kernel_rfl
  have L6' := L6
  have W5' := W5
  obtain ⟨q6, r6, rfl, _⟩ := L6'
  obtain ⟨q5, r5, rfl, _⟩ := W5'
  have hB : Below w.heap.size w ((w.alloc (.cells #[.bool b6, .slice q6 l6.length r6] 24)).alloc (.cells #[.bool b5, .int .u8 k5, .slice q5 m5.length r5] 27)) := by (repeat (first | with_reducible exact Below.refl _ _ | with_reducible assumption | refine Below.alloc ?_ (by (try simp); try omega) _ | refine Below.setCell ?_ (by (try simp); try omega) _ | refine below_drewN ?_ _ | refine Below.drew ?_ | (with_reducible refine Below.trans ?_ (Below.mono (by assumption) (by (try simp); try omega)))))
  have c0 : ((w.alloc (.cells #[.bool b6, .slice q6 l6.length r6] 24)).alloc (.cells #[.bool b5, .int .u8 k5, .slice q5 m5.length r5] 27)).cell? ⟨w.heap.size, 0, none⟩ = some (.bool b6) := by simp
  have c1 : ((w.alloc (.cells #[.bool b6, .slice q6 l6.length r6] 24)).alloc (.cells #[.bool b5, .int .u8 k5, .slice q5 m5.length r5] 27)).cell? ⟨w.heap.size, 1, none⟩ = some (.slice q6 l6.length r6) := by simp
  have e0 : ((w.alloc (.cells #[.bool b6, .slice q6 l6.length r6] 24)).alloc (.cells #[.bool b5, .int .u8 k5, .slice q5 m5.length r5] 27)).cell? ⟨w.heap.size + 1, 0, none⟩ = some (.bool b5) := by simp
  have e1 : ((w.alloc (.cells #[.bool b6, .slice q6 l6.length r6] 24)).alloc (.cells #[.bool b5, .int .u8 k5, .slice q5 m5.length r5] 27)).cell? ⟨w.heap.size + 1, 1, none⟩ = some (.int .u8 k5) := by simp
  have e2 : ((w.alloc (.cells #[.bool b6, .slice q6 l6.length r6] 24)).alloc (.cells #[.bool b5, .int .u8 k5, .slice q5 m5.length r5] 27)).cell? ⟨w.heap.size + 1, 2, none⟩ = some (.slice q5 m5.length r5) := by simp
  go_enter Tryd.func7, Tryd.ntmps7
  go_wp2_with fail
  generalize ((w.alloc (.cells #[.bool b6, .slice q6 l6.length r6] 24)).alloc (.cells #[.bool b5, .int .u8 k5, .slice q5 m5.length r5] 27)) = w1 at *
  obtain ⟨g, hg⟩ : ∃ g, w.heap.size = g := ⟨_, rfl⟩
  simp only [hg] at c0 c1 e0 e1 e2 ⊢
  rw [← hg]

  go_at_call 16
  refine (works_true _ (hP.keep hB)).mono ?_
  rintro e u1 ⟨rfl, hb⟩
  have hk : Below w1.heap.size w1 u1 := by (repeat (first | with_reducible exact Below.refl _ _ | with_reducible assumption | refine Below.alloc ?_ (by (try simp); try omega) _ | refine Below.setCell ?_ (by (try simp); try omega) _ | refine below_drewN ?_ _ | refine Below.drew ?_ | (with_reducible refine Below.trans ?_ (Below.mono (by assumption) (by (try simp); try omega)))))
  clear hb
  replace c0 := lkeep hk c0
  replace c1 := lkeep hk c1
  replace e0 := lkeep hk e0
  replace e1 := lkeep hk e1
  replace e2 := lkeep hk e2
  replace hB := hB.trans (hk.mono hB.size)
  clear hk
  go_wp2_with fail
  go_at_call 43
  refine (drShort_any b5 k5 _ m5 _ K50 K51 (W5.keep hB)).mono ?_
  rintro e u2 ⟨⟨pA, aA, nA, kA, rfl, LA⟩, hb⟩
  have hk : Below u1.heap.size u1 u2 := by (repeat (first | with_reducible exact Below.refl _ _ | with_reducible assumption | refine Below.alloc ?_ (by (try simp); try omega) _ | refine Below.setCell ?_ (by (try simp); try omega) _ | refine below_drewN ?_ _ | refine Below.drew ?_ | (with_reducible refine Below.trans ?_ (Below.mono (by assumption) (by (try simp); try omega)))))
  clear hb
  replace c0 := lkeep hk c0
  replace c1 := lkeep hk c1
  replace e0 := lkeep hk e0
  replace e1 := lkeep hk e1
  replace e2 := lkeep hk e2
  replace hB := hB.trans (hk.mono hB.size)
  clear hk
  generalize drShortZ b5 k5 m5 = x at *
  go_wp2_with fail
  have lge := World.block_lt_of_cell? _ _ e2
  have hX : Below u2.heap.size u2 (u2.alloc (.cells #[.bool false, .slice aA nA kA] 24)) := by (repeat (first | with_reducible exact Below.refl _ _ | with_reducible assumption | refine Below.alloc ?_ (by (try simp); try omega) _ | refine Below.setCell ?_ (by (try simp); try omega) _ | refine below_drewN ?_ _ | refine Below.drew ?_ | (with_reducible refine Below.trans ?_ (Below.mono (by assumption) (by (try simp); try omega)))))
  have bA : Bx (u2.alloc (.cells #[.bool false, .slice aA nA kA] 24)) (u2.heap.size) (.bool false) (.slice aA nA kA) 24 := by exact (Bx.new u2 (.bool false) (.slice aA nA kA) 24)
  have gebA : w.heap.size ≤ u2.heap.size := by have := hB.size; omega
  replace LA := LA.keep hX
  replace c0 := lkeep hX c0
  replace c1 := lkeep hX c1
  replace e0 := lkeep hX e0
  replace e1 := lkeep hX e1
  replace e2 := lkeep hX e2
  replace hB := hB.trans (hX.mono hB.size)
  clear hX
  generalize (u2.alloc (.cells #[.bool false, .slice aA nA kA] 24)) = v3 at *
  generalize u2.heap.size = gbA at *
  have LsA := LA.parts.2
  have LX : Lg v3 (.agg #[.bool false, .slice aA nA kA]) (x.natAbs : Int) := ⟨_, by rw [show decide ((x.natAbs : Int) < 0) = false by simp], by rw [show (((x.natAbs : Int).natAbs : Nat) : Int) = (x.natAbs : Int) by omega]; exact LsA⟩
  clear LA LsA
  have hy : Dl (x.natAbs : Int) ≤ 3 := by have := Dl_mono (x := (x.natAbs : Int)) (y := x) (by omega); omega
  generalize (x.natAbs : Int) = y at *
  have hyy := Dl_mul y y
  have h1D : Dl 1 ≤ 1 := Dl_le (by decide)
  have hs1 := Dl_add (y * y) 1
  have hs2 := Dl_sub (y * y) 1
  go_at_call 42
  refine (rprod_num _ _ y y _ LX LX (by omega) (by omega)).mono ?_
  rintro e u4 ⟨⟨pS, aS, nS, kS, rfl, LS⟩, hb⟩
  have hk : Below v3.heap.size v3 u4 := by (repeat (first | with_reducible exact Below.refl _ _ | with_reducible assumption | refine Below.alloc ?_ (by (try simp); try omega) _ | refine Below.setCell ?_ (by (try simp); try omega) _ | refine below_drewN ?_ _ | refine Below.drew ?_ | (with_reducible refine Below.trans ?_ (Below.mono (by assumption) (by (try simp); try omega)))))
  clear hb
  replace LX := LX.keep hk
  replace bA := bA.keep hk
  replace c0 := lkeep hk c0
  replace c1 := lkeep hk c1
  replace e0 := lkeep hk e0
  replace e1 := lkeep hk e1
  replace e2 := lkeep hk e2
  replace hB := hB.trans (hk.mono hB.size)
  clear hk
  go_wp2_with fail
  have hX : Below u4.heap.size u4 (u4.alloc (.cells #[.bool pS, .slice aS nS kS] 24)) := by (repeat (first | with_reducible exact Below.refl _ _ | with_reducible assumption | refine Below.alloc ?_ (by (try simp); try omega) _ | refine Below.setCell ?_ (by (try simp); try omega) _ | refine below_drewN ?_ _ | refine Below.drew ?_ | (with_reducible refine Below.trans ?_ (Below.mono (by assumption) (by (try simp); try omega)))))
  have bS : Bx (u4.alloc (.cells #[.bool pS, .slice aS nS kS] 24)) (u4.heap.size) (.bool pS) (.slice aS nS kS) 24 := by exact (Bx.new u4 (.bool pS) (.slice aS nS kS) 24)
  have gebS : w.heap.size ≤ u4.heap.size := by have := hB.size; omega
  have ltbAbS : gbA < u4.heap.size := by have := bA.lt; omega
  replace LX := LX.keep hX
  replace LS := LS.keep hX
  replace bA := bA.keep hX
  replace c0 := lkeep hX c0
  replace c1 := lkeep hX c1
  replace e0 := lkeep hX e0
  replace e1 := lkeep hX e1
  replace e2 := lkeep hX e2
  replace hB := hB.trans (hX.mono hB.size)
  clear hX
  generalize (u4.alloc (.cells #[.bool pS, .slice aS nS kS] 24)) = v5 at *
  generalize u4.heap.size = gbS at *
  obtain ⟨zL, hzL⟩ : ∃ zL, drLongZ b5 k5 m5 = zL := ⟨_, rfl⟩
  rw [hzL] at hxL
  have hdl := fun w h => drLong_any b5 k5 (.slice q5 m5.length r5) m5 w K50 K51 h
  rw [hzL] at hdl
  clear hzL
  replace hdl := Lib.hid hdl
  have how := fun w h => own_any b6 (.slice q6 l6.length r6) l6 w h N6
  replace how := Lib.hid how
  have hsm := fun w V h h' => rsum_num (.agg #[.bool pS, .slice aS nS kS]) V (y * y) 1 w h h' (by omega) (by omega)
  have hdf := fun w V h h' => rdiff_num (.agg #[.bool pS, .slice aS nS kS]) V (y * y) 1 w h h' (by omega) (by omega)
  replace hsm := Lib.hid hsm
  replace hdf := Lib.hid hdf
  have s0 := bS.c0
  have s1 := bS.c1
  replace hB : Below w.heap.size w v5.drew := hB.drew
  replace LS : Lg v5.drew _ _ := LS
  replace c0 : v5.drew.cell? _ = _ := c0
  replace c1 : v5.drew.cell? _ = _ := c1
  replace e0 : v5.drew.cell? _ = _ := e0
  replace e1 : v5.drew.cell? _ = _ := e1
  replace e2 : v5.drew.cell? _ = _ := e2
  replace s0 : v5.drew.cell? _ = _ := s0
  replace s1 : v5.drew.cell? _ = _ := s1
  clear LX bA bS
  go_region_held3 (fun w' => w'.cell? ⟨g, 0, none⟩ = some (.bool b6) ∧ w'.cell? ⟨g, 1, none⟩ = some (.slice q6 l6.length r6) ∧ w'.cell? ⟨g + 1, 0, none⟩ = some (.bool b5) ∧ w'.cell? ⟨g + 1, 1, none⟩ = some (.int .u8 k5) ∧ w'.cell? ⟨g + 1, 2, none⟩ = some (.slice q5 m5.length r5) ∧ w'.cell? ⟨gbS, 0, none⟩ = some (.bool pS) ∧ w'.cell? ⟨gbS, 1, none⟩ = some (.slice aS nS kS))
    (exact ⟨c0, c1, e0, e1, e2, s0, s1⟩)
    (first | (go_at_call 28; (with_reducible refine (how.out _ (L6.keep hB)).mono ?_); rintro e uz0 ⟨a0, n0, c0', rfl, F0, hb0⟩; replace LS := LS.keep hb0; replace c0 := lkeep hb0 c0; replace c1 := lkeep hb0 c1; replace e0 := lkeep hb0 e0; replace e1 := lkeep hb0 e1; replace e2 := lkeep hb0 e2; replace s0 := lkeep hb0 s0; replace s1 := lkeep hb0 s1; replace hB := hB.trans (hb0.mono hB.size); clear hb0) | (go_at_call 44; (with_reducible refine (hdl.out _ (W5.keep hB)).mono ?_); rintro e uz1 ⟨⟨p1, a1, n1, c1', rfl, F1⟩, hb1⟩; replace LS := LS.keep hb1; replace F0 := F0.keep hb1; replace c0 := lkeep hb1 c0; replace c1 := lkeep hb1 c1; replace e0 := lkeep hb1 e0; replace e1 := lkeep hb1 e1; replace e2 := lkeep hb1 e2; replace s0 := lkeep hb1 s0; replace s1 := lkeep hb1 s1; replace hB := hB.trans (hb1.mono hB.size); clear hb1) | (go_at_call 45; (with_reducible refine (hsm.out _ _ LS F2).mono ?_); rintro e uz3 ⟨⟨p3, a3, n3, c3', rfl, F3⟩, hb3⟩; replace LS := LS.keep hb3; replace F0 := F0.keep hb3; replace F1 := F1.keep hb3; replace c0 := lkeep hb3 c0; replace c1 := lkeep hb3 c1; replace e0 := lkeep hb3 e0; replace e1 := lkeep hb3 e1; replace e2 := lkeep hb3 e2; replace s0 := lkeep hb3 s0; replace s1 := lkeep hb3 s1; replace hB := hB.trans (hb3.mono hB.size); clear hb3) | (go_at_call 46; (with_reducible refine (hdf.out _ _ LS F2).mono ?_); rintro e uz4 ⟨⟨p4, a4, n4, c4', rfl, F4⟩, hb4⟩; replace LS := LS.keep hb4; replace F0 := F0.keep hb4; replace F1 := F1.keep hb4; replace F3 := F3.keep hb4; replace c0 := lkeep hb4 c0; replace c1 := lkeep hb4 c1; replace e0 := lkeep hb4 e0; replace e1 := lkeep hb4 e1; replace e2 := lkeep hb4 e2; replace s0 := lkeep hb4 s0; replace s1 := lkeep hb4 s1; replace hB := hB.trans (hb4.mono hB.size); clear hb4) | (go_at_call 19; (with_reducible refine (rof_num 1 _ (by omega) (by omega)).mono ?_); rintro e uz2 ⟨⟨p2, a2, n2, c2', rfl, F2⟩, hb2⟩; (first | (replace F3 := F3.keep hb2) | skip); replace F0 := F0.keep hb2; replace F1 := F1.keep hb2; replace LS := LS.keep hb2; replace c0 := lkeep hb2 c0; replace c1 := lkeep hb2 c1; replace e0 := lkeep hb2 e0; replace e1 := lkeep hb2 e1; replace e2 := lkeep hb2 e2; replace s0 := lkeep hb2 s0; replace s1 := lkeep hb2 s1; replace hB := hB.trans (hb2.mono hB.size); clear hb2))
  clear L6 W5 c0 c1 e0 e1 e2 s0 s1 hsm hdf how hdl F2
  have t0 : (l6.take 60).length ≤ 65 := by rw [List.length_take]; omega
  generalize l6.take 60 = l0 at *
  obtain ⟨z0, er0, hz0, hA0, hB0⟩ := sqrt_both b6 l0 t0
  clear t0
  have G1 := F1.parts.2
  obtain ⟨z1, er1, hz1, hA1, hB1⟩ := sqrt_both p1 (dg ((zL : Int).natAbs : Int)) (by have h65 : Dl zL ≤ 65 := (by omega); unfold Dl at h65; exact h65)
  generalize dg ((zL : Int).natAbs : Int) = l1 at *
  have G2 := LS.parts.2
  obtain ⟨z2, er2, hz2, hA2, hB2⟩ := sqrt_both pS (dg (((y * y) : Int).natAbs : Int)) (by have h65 : Dl (y * y) ≤ 65 := (by omega); unfold Dl at h65; exact h65)
  generalize dg (((y * y) : Int).natAbs : Int) = l2 at *
  have G3 := F3.parts.2
  obtain ⟨z3, er3, hz3, hA3, hB3⟩ := sqrt_both p3 (dg (((y * y + 1) : Int).natAbs : Int)) (by have h65 : Dl (y * y + 1) ≤ 65 := (by omega); unfold Dl at h65; exact h65)
  generalize dg (((y * y + 1) : Int).natAbs : Int) = l3 at *
  have G4 := F4.parts.2
  obtain ⟨z4, er4, hz4, hA4, hB4⟩ := sqrt_both p4 (dg (((y * y - 1) : Int).natAbs : Int)) (by have h65 : Dl (y * y - 1) ≤ 65 := (by omega); unfold Dl at h65; exact h65)
  generalize dg (((y * y - 1) : Int).natAbs : Int) = l4 at *
  replace hA0 := Lib.hid hA0
  replace hA1 := Lib.hid hA1
  replace hA2 := Lib.hid hA2
  replace hA3 := Lib.hid hA3
  replace hA4 := Lib.hid hA4
  replace hB0 := Lib.hid hB0
  replace hB1 := Lib.hid hB1
  replace hB2 := Lib.hid hB2
  replace hB3 := Lib.hid hB3
  replace hB4 := Lib.hid hB4
  clear LS F1 F3 F4
  have G0 := F0
  clear F0
  go_wp2_with fail
  refine wp_loop_rounds 6 ?_
  rw [rounds_succ]
  go_wp2_with fail
  have hX : Below uz4.heap.size uz4 (uz4.alloc (.cells #[.bool b6, .slice a0 n0 c0'] 24)) := by (repeat (first | with_reducible exact Below.refl _ _ | with_reducible assumption | refine Below.alloc ?_ (by (try simp); try omega) _ | refine Below.setCell ?_ (by (try simp); try omega) _ | refine below_drewN ?_ _ | refine Below.drew ?_ | (with_reducible refine Below.trans ?_ (Below.mono (by assumption) (by (try simp); try omega)))))
  have bX0 : Bx (uz4.alloc (.cells #[.bool b6, .slice a0 n0 c0'] 24)) (uz4.heap.size) (.bool b6) (.slice a0 n0 c0') 24 := by exact (Bx.new uz4 (.bool b6) (.slice a0 n0 c0') 24)
  have gebX0 : w.heap.size ≤ uz4.heap.size := by have := hB.size; omega
  replace G0 := G0.keep hX
  replace G1 := G1.keep hX
  replace G2 := G2.keep hX
  replace G3 := G3.keep hX
  replace G4 := G4.keep hX
  replace hB := hB.trans (hX.mono hB.size)
  clear hX
  generalize (uz4.alloc (.cells #[.bool b6, .slice a0 n0 c0'] 24)) = v6 at *
  generalize uz4.heap.size = gbX0 at *
  go_at_call 47
  refine (hA0.out _ _ G0).mono ?_
  rintro e u7 ⟨⟨pP0, aP0x, nP0x, kP0x, rfl, LP0⟩, hb⟩
  have hk : Below v6.heap.size v6 u7 := by (repeat (first | with_reducible exact Below.refl _ _ | with_reducible assumption | refine Below.alloc ?_ (by (try simp); try omega) _ | refine Below.setCell ?_ (by (try simp); try omega) _ | refine below_drewN ?_ _ | refine Below.drew ?_ | (with_reducible refine Below.trans ?_ (Below.mono (by assumption) (by (try simp); try omega)))))
  clear hb
  replace G0 := G0.keep hk
  replace G1 := G1.keep hk
  replace G2 := G2.keep hk
  replace G3 := G3.keep hk
  replace G4 := G4.keep hk
  replace bX0 := bX0.keep hk
  replace hB := hB.trans (hk.mono hB.size)
  clear hk
  have rbX00 : (u7.alloc (.cells #[.bool pP0, .slice aP0x nP0x kP0x] 24)).cell? ⟨gbX0, 0, none⟩ = some (.bool b6) := (bX0.alloc _).c0
  have rbX01 : (u7.alloc (.cells #[.bool pP0, .slice aP0x nP0x kP0x] 24)).cell? ⟨gbX0, 1, none⟩ = some (.slice a0 n0 c0') := (bX0.alloc _).c1
  go_wp2_with fail
  clear rbX00 rbX01
  have hX : Below u7.heap.size u7 (u7.alloc (.cells #[.bool pP0, .slice aP0x nP0x kP0x] 24)) := by (repeat (first | with_reducible exact Below.refl _ _ | with_reducible assumption | refine Below.alloc ?_ (by (try simp); try omega) _ | refine Below.setCell ?_ (by (try simp); try omega) _ | refine below_drewN ?_ _ | refine Below.drew ?_ | (with_reducible refine Below.trans ?_ (Below.mono (by assumption) (by (try simp); try omega)))))
  have bP0 : Bx (u7.alloc (.cells #[.bool pP0, .slice aP0x nP0x kP0x] 24)) (u7.heap.size) (.bool pP0) (.slice aP0x nP0x kP0x) 24 := by exact (Bx.new u7 (.bool pP0) (.slice aP0x nP0x kP0x) 24)
  have gebP0 : w.heap.size ≤ u7.heap.size := by have := hB.size; omega
  have ltbX0bP0 : gbX0 < u7.heap.size := by have := bX0.lt; omega
  replace G0 := G0.keep hX
  replace G1 := G1.keep hX
  replace G2 := G2.keep hX
  replace G3 := G3.keep hX
  replace G4 := G4.keep hX
  replace LP0 := LP0.keep hX
  replace bX0 := bX0.keep hX
  replace hB := hB.trans (hX.mono hB.size)
  clear hX
  generalize (u7.alloc (.cells #[.bool pP0, .slice aP0x nP0x kP0x] 24)) = v8 at *
  generalize u7.heap.size = gbP0 at *
  go_at_call 48
  refine (hB0.out _ _ G0).mono ?_
  rintro e u9 ⟨⟨pQ0, aQ0x, nQ0x, kQ0x, rfl, LQ0⟩, hb⟩
  have hk : Below v8.heap.size v8 u9 := by (repeat (first | with_reducible exact Below.refl _ _ | with_reducible assumption | refine Below.alloc ?_ (by (try simp); try omega) _ | refine Below.setCell ?_ (by (try simp); try omega) _ | refine below_drewN ?_ _ | refine Below.drew ?_ | (with_reducible refine Below.trans ?_ (Below.mono (by assumption) (by (try simp); try omega)))))
  clear hb
  replace G0 := G0.keep hk
  replace G1 := G1.keep hk
  replace G2 := G2.keep hk
  replace G3 := G3.keep hk
  replace G4 := G4.keep hk
  replace LP0 := LP0.keep hk
  replace bX0 := bX0.keep hk
  replace bP0 := bP0.keep hk
  replace hB := hB.trans (hk.mono hB.size)
  clear hk
  clear G0 bX0
  have rbP00 : (u9.alloc (.cells #[.bool pQ0, .slice aQ0x nQ0x kQ0x] 24)).cell? ⟨gbP0, 0, none⟩ = some (.bool pP0) := (bP0.alloc _).c0
  have rbP01 : (u9.alloc (.cells #[.bool pQ0, .slice aQ0x nQ0x kQ0x] 24)).cell? ⟨gbP0, 1, none⟩ = some (.slice aP0x nP0x kP0x) := (bP0.alloc _).c1
  go_wp2_with fail
  clear rbP00 rbP01
  have hX : Below u9.heap.size u9 (u9.alloc (.cells #[.bool pQ0, .slice aQ0x nQ0x kQ0x] 24)) := by (repeat (first | with_reducible exact Below.refl _ _ | with_reducible assumption | refine Below.alloc ?_ (by (try simp); try omega) _ | refine Below.setCell ?_ (by (try simp); try omega) _ | refine below_drewN ?_ _ | refine Below.drew ?_ | (with_reducible refine Below.trans ?_ (Below.mono (by assumption) (by (try simp); try omega)))))
  have bQ0 : Bx (u9.alloc (.cells #[.bool pQ0, .slice aQ0x nQ0x kQ0x] 24)) (u9.heap.size) (.bool pQ0) (.slice aQ0x nQ0x kQ0x) 24 := by exact (Bx.new u9 (.bool pQ0) (.slice aQ0x nQ0x kQ0x) 24)
  have gebQ0 : w.heap.size ≤ u9.heap.size := by have := hB.size; omega
  have ltbP0bQ0 : gbP0 < u9.heap.size := by have := bP0.lt; omega
  replace G1 := G1.keep hX
  replace G2 := G2.keep hX
  replace G3 := G3.keep hX
  replace G4 := G4.keep hX
  replace LP0 := LP0.keep hX
  replace LQ0 := LQ0.keep hX
  replace bP0 := bP0.keep hX
  replace hB := hB.trans (hX.mono hB.size)
  clear hX
  generalize (u9.alloc (.cells #[.bool pQ0, .slice aQ0x nQ0x kQ0x] 24)) = v10 at *
  generalize u9.heap.size = gbQ0 at *
  go_at_call 35
  refine (alike_true _ _ z0 er0 _ LP0 LQ0 (by omega)).mono ?_
  rintro e u11 ⟨rfl, hb⟩
  have hk : Below v10.heap.size v10 u11 := by (repeat (first | with_reducible exact Below.refl _ _ | with_reducible assumption | refine Below.alloc ?_ (by (try simp); try omega) _ | refine Below.setCell ?_ (by (try simp); try omega) _ | refine below_drewN ?_ _ | refine Below.drew ?_ | (with_reducible refine Below.trans ?_ (Below.mono (by assumption) (by (try simp); try omega)))))
  clear hb
  replace G1 := G1.keep hk
  replace G2 := G2.keep hk
  replace G3 := G3.keep hk
  replace G4 := G4.keep hk
  replace LP0 := LP0.keep hk
  replace LQ0 := LQ0.keep hk
  replace bP0 := bP0.keep hk
  replace bQ0 := bQ0.keep hk
  replace hB := hB.trans (hk.mono hB.size)
  clear hk
  clear LP0 LQ0 bP0 bQ0
  go_wp2_with fail
  rw [rounds_succ]
  go_wp2_with fail
  have hX : Below u11.heap.size u11 (u11.alloc (.cells #[.bool p1, .slice a1 n1 c1'] 24)) := by (repeat (first | with_reducible exact Below.refl _ _ | with_reducible assumption | refine Below.alloc ?_ (by (try simp); try omega) _ | refine Below.setCell ?_ (by (try simp); try omega) _ | refine below_drewN ?_ _ | refine Below.drew ?_ | (with_reducible refine Below.trans ?_ (Below.mono (by assumption) (by (try simp); try omega)))))
  have bX1 : Bx (u11.alloc (.cells #[.bool p1, .slice a1 n1 c1'] 24)) (u11.heap.size) (.bool p1) (.slice a1 n1 c1') 24 := by exact (Bx.new u11 (.bool p1) (.slice a1 n1 c1') 24)
  have gebX1 : w.heap.size ≤ u11.heap.size := by have := hB.size; omega
  replace G1 := G1.keep hX
  replace G2 := G2.keep hX
  replace G3 := G3.keep hX
  replace G4 := G4.keep hX
  replace hB := hB.trans (hX.mono hB.size)
  clear hX
  generalize (u11.alloc (.cells #[.bool p1, .slice a1 n1 c1'] 24)) = v12 at *
  generalize u11.heap.size = gbX1 at *
  go_at_call 47
  refine (hA1.out _ _ G1).mono ?_
  rintro e u13 ⟨⟨pP1, aP1x, nP1x, kP1x, rfl, LP1⟩, hb⟩
  have hk : Below v12.heap.size v12 u13 := by (repeat (first | with_reducible exact Below.refl _ _ | with_reducible assumption | refine Below.alloc ?_ (by (try simp); try omega) _ | refine Below.setCell ?_ (by (try simp); try omega) _ | refine below_drewN ?_ _ | refine Below.drew ?_ | (with_reducible refine Below.trans ?_ (Below.mono (by assumption) (by (try simp); try omega)))))
  clear hb
  replace G1 := G1.keep hk
  replace G2 := G2.keep hk
  replace G3 := G3.keep hk
  replace G4 := G4.keep hk
  replace bX1 := bX1.keep hk
  replace hB := hB.trans (hk.mono hB.size)
  clear hk
  have rbX10 : (u13.alloc (.cells #[.bool pP1, .slice aP1x nP1x kP1x] 24)).cell? ⟨gbX1, 0, none⟩ = some (.bool p1) := (bX1.alloc _).c0
  have rbX11 : (u13.alloc (.cells #[.bool pP1, .slice aP1x nP1x kP1x] 24)).cell? ⟨gbX1, 1, none⟩ = some (.slice a1 n1 c1') := (bX1.alloc _).c1
  go_wp2_with fail
  clear rbX10 rbX11
  have hX : Below u13.heap.size u13 (u13.alloc (.cells #[.bool pP1, .slice aP1x nP1x kP1x] 24)) := by (repeat (first | with_reducible exact Below.refl _ _ | with_reducible assumption | refine Below.alloc ?_ (by (try simp); try omega) _ | refine Below.setCell ?_ (by (try simp); try omega) _ | refine below_drewN ?_ _ | refine Below.drew ?_ | (with_reducible refine Below.trans ?_ (Below.mono (by assumption) (by (try simp); try omega)))))
  have bP1 : Bx (u13.alloc (.cells #[.bool pP1, .slice aP1x nP1x kP1x] 24)) (u13.heap.size) (.bool pP1) (.slice aP1x nP1x kP1x) 24 := by exact (Bx.new u13 (.bool pP1) (.slice aP1x nP1x kP1x) 24)
  have gebP1 : w.heap.size ≤ u13.heap.size := by have := hB.size; omega
  have ltbX1bP1 : gbX1 < u13.heap.size := by have := bX1.lt; omega
  replace G1 := G1.keep hX
  replace G2 := G2.keep hX
  replace G3 := G3.keep hX
  replace G4 := G4.keep hX
  replace LP1 := LP1.keep hX
  replace bX1 := bX1.keep hX
  replace hB := hB.trans (hX.mono hB.size)
  clear hX
  generalize (u13.alloc (.cells #[.bool pP1, .slice aP1x nP1x kP1x] 24)) = v14 at *
  generalize u13.heap.size = gbP1 at *
  go_at_call 48
  refine (hB1.out _ _ G1).mono ?_
  rintro e u15 ⟨⟨pQ1, aQ1x, nQ1x, kQ1x, rfl, LQ1⟩, hb⟩
  have hk : Below v14.heap.size v14 u15 := by (repeat (first | with_reducible exact Below.refl _ _ | with_reducible assumption | refine Below.alloc ?_ (by (try simp); try omega) _ | refine Below.setCell ?_ (by (try simp); try omega) _ | refine below_drewN ?_ _ | refine Below.drew ?_ | (with_reducible refine Below.trans ?_ (Below.mono (by assumption) (by (try simp); try omega)))))
  clear hb
  replace G1 := G1.keep hk
  replace G2 := G2.keep hk
  replace G3 := G3.keep hk
  replace G4 := G4.keep hk
  replace LP1 := LP1.keep hk
  replace bX1 := bX1.keep hk
  replace bP1 := bP1.keep hk
  replace hB := hB.trans (hk.mono hB.size)
  clear hk
  clear G1 bX1
  have rbP10 : (u15.alloc (.cells #[.bool pQ1, .slice aQ1x nQ1x kQ1x] 24)).cell? ⟨gbP1, 0, none⟩ = some (.bool pP1) := (bP1.alloc _).c0
  have rbP11 : (u15.alloc (.cells #[.bool pQ1, .slice aQ1x nQ1x kQ1x] 24)).cell? ⟨gbP1, 1, none⟩ = some (.slice aP1x nP1x kP1x) := (bP1.alloc _).c1
  go_wp2_with fail
  clear rbP10 rbP11
  have hX : Below u15.heap.size u15 (u15.alloc (.cells #[.bool pQ1, .slice aQ1x nQ1x kQ1x] 24)) := by (repeat (first | with_reducible exact Below.refl _ _ | with_reducible assumption | refine Below.alloc ?_ (by (try simp); try omega) _ | refine Below.setCell ?_ (by (try simp); try omega) _ | refine below_drewN ?_ _ | refine Below.drew ?_ | (with_reducible refine Below.trans ?_ (Below.mono (by assumption) (by (try simp); try omega)))))
  have bQ1 : Bx (u15.alloc (.cells #[.bool pQ1, .slice aQ1x nQ1x kQ1x] 24)) (u15.heap.size) (.bool pQ1) (.slice aQ1x nQ1x kQ1x) 24 := by exact (Bx.new u15 (.bool pQ1) (.slice aQ1x nQ1x kQ1x) 24)
  have gebQ1 : w.heap.size ≤ u15.heap.size := by have := hB.size; omega
  have ltbP1bQ1 : gbP1 < u15.heap.size := by have := bP1.lt; omega
  replace G2 := G2.keep hX
  replace G3 := G3.keep hX
  replace G4 := G4.keep hX
  replace LP1 := LP1.keep hX
  replace LQ1 := LQ1.keep hX
  replace bP1 := bP1.keep hX
  replace hB := hB.trans (hX.mono hB.size)
  clear hX
  generalize (u15.alloc (.cells #[.bool pQ1, .slice aQ1x nQ1x kQ1x] 24)) = v16 at *
  generalize u15.heap.size = gbQ1 at *
  go_at_call 35
  refine (alike_true _ _ z1 er1 _ LP1 LQ1 (by omega)).mono ?_
  rintro e u17 ⟨rfl, hb⟩
  have hk : Below v16.heap.size v16 u17 := by (repeat (first | with_reducible exact Below.refl _ _ | with_reducible assumption | refine Below.alloc ?_ (by (try simp); try omega) _ | refine Below.setCell ?_ (by (try simp); try omega) _ | refine below_drewN ?_ _ | refine Below.drew ?_ | (with_reducible refine Below.trans ?_ (Below.mono (by assumption) (by (try simp); try omega)))))
  clear hb
  replace G2 := G2.keep hk
  replace G3 := G3.keep hk
  replace G4 := G4.keep hk
  replace LP1 := LP1.keep hk
  replace LQ1 := LQ1.keep hk
  replace bP1 := bP1.keep hk
  replace bQ1 := bQ1.keep hk
  replace hB := hB.trans (hk.mono hB.size)
  clear hk
  clear LP1 LQ1 bP1 bQ1
  go_wp2_with fail
  rw [rounds_succ]
  go_wp2_with fail
  have hX : Below u17.heap.size u17 (u17.alloc (.cells #[.bool pS, .slice aS nS kS] 24)) := by (repeat (first | with_reducible exact Below.refl _ _ | with_reducible assumption | refine Below.alloc ?_ (by (try simp); try omega) _ | refine Below.setCell ?_ (by (try simp); try omega) _ | refine below_drewN ?_ _ | refine Below.drew ?_ | (with_reducible refine Below.trans ?_ (Below.mono (by assumption) (by (try simp); try omega)))))
  have bX2 : Bx (u17.alloc (.cells #[.bool pS, .slice aS nS kS] 24)) (u17.heap.size) (.bool pS) (.slice aS nS kS) 24 := by exact (Bx.new u17 (.bool pS) (.slice aS nS kS) 24)
  have gebX2 : w.heap.size ≤ u17.heap.size := by have := hB.size; omega
  replace G2 := G2.keep hX
  replace G3 := G3.keep hX
  replace G4 := G4.keep hX
  replace hB := hB.trans (hX.mono hB.size)
  clear hX
  generalize (u17.alloc (.cells #[.bool pS, .slice aS nS kS] 24)) = v18 at *
  generalize u17.heap.size = gbX2 at *
  go_at_call 47
  refine (hA2.out _ _ G2).mono ?_
  rintro e u19 ⟨⟨pP2, aP2x, nP2x, kP2x, rfl, LP2⟩, hb⟩
  have hk : Below v18.heap.size v18 u19 := by (repeat (first | with_reducible exact Below.refl _ _ | with_reducible assumption | refine Below.alloc ?_ (by (try simp); try omega) _ | refine Below.setCell ?_ (by (try simp); try omega) _ | refine below_drewN ?_ _ | refine Below.drew ?_ | (with_reducible refine Below.trans ?_ (Below.mono (by assumption) (by (try simp); try omega)))))
  clear hb
  replace G2 := G2.keep hk
  replace G3 := G3.keep hk
  replace G4 := G4.keep hk
  replace bX2 := bX2.keep hk
  replace hB := hB.trans (hk.mono hB.size)
  clear hk
  have rbX20 : (u19.alloc (.cells #[.bool pP2, .slice aP2x nP2x kP2x] 24)).cell? ⟨gbX2, 0, none⟩ = some (.bool pS) := (bX2.alloc _).c0
  have rbX21 : (u19.alloc (.cells #[.bool pP2, .slice aP2x nP2x kP2x] 24)).cell? ⟨gbX2, 1, none⟩ = some (.slice aS nS kS) := (bX2.alloc _).c1
  go_wp2_with fail
  clear rbX20 rbX21
  have hX : Below u19.heap.size u19 (u19.alloc (.cells #[.bool pP2, .slice aP2x nP2x kP2x] 24)) := by (repeat (first | with_reducible exact Below.refl _ _ | with_reducible assumption | refine Below.alloc ?_ (by (try simp); try omega) _ | refine Below.setCell ?_ (by (try simp); try omega) _ | refine below_drewN ?_ _ | refine Below.drew ?_ | (with_reducible refine Below.trans ?_ (Below.mono (by assumption) (by (try simp); try omega)))))
  have bP2 : Bx (u19.alloc (.cells #[.bool pP2, .slice aP2x nP2x kP2x] 24)) (u19.heap.size) (.bool pP2) (.slice aP2x nP2x kP2x) 24 := by exact (Bx.new u19 (.bool pP2) (.slice aP2x nP2x kP2x) 24)
  have gebP2 : w.heap.size ≤ u19.heap.size := by have := hB.size; omega
  have ltbX2bP2 : gbX2 < u19.heap.size := by have := bX2.lt; omega
  replace G2 := G2.keep hX
  replace G3 := G3.keep hX
  replace G4 := G4.keep hX
  replace LP2 := LP2.keep hX
  replace bX2 := bX2.keep hX
  replace hB := hB.trans (hX.mono hB.size)
  clear hX
  generalize (u19.alloc (.cells #[.bool pP2, .slice aP2x nP2x kP2x] 24)) = v20 at *
  generalize u19.heap.size = gbP2 at *
  go_at_call 48
  refine (hB2.out _ _ G2).mono ?_
  rintro e u21 ⟨⟨pQ2, aQ2x, nQ2x, kQ2x, rfl, LQ2⟩, hb⟩
  have hk : Below v20.heap.size v20 u21 := by (repeat (first | with_reducible exact Below.refl _ _ | with_reducible assumption | refine Below.alloc ?_ (by (try simp); try omega) _ | refine Below.setCell ?_ (by (try simp); try omega) _ | refine below_drewN ?_ _ | refine Below.drew ?_ | (with_reducible refine Below.trans ?_ (Below.mono (by assumption) (by (try simp); try omega)))))
  clear hb
  replace G2 := G2.keep hk
  replace G3 := G3.keep hk
  replace G4 := G4.keep hk
  replace LP2 := LP2.keep hk
  replace bX2 := bX2.keep hk
  replace bP2 := bP2.keep hk
  replace hB := hB.trans (hk.mono hB.size)
  clear hk
  clear G2 bX2
  have rbP20 : (u21.alloc (.cells #[.bool pQ2, .slice aQ2x nQ2x kQ2x] 24)).cell? ⟨gbP2, 0, none⟩ = some (.bool pP2) := (bP2.alloc _).c0
  have rbP21 : (u21.alloc (.cells #[.bool pQ2, .slice aQ2x nQ2x kQ2x] 24)).cell? ⟨gbP2, 1, none⟩ = some (.slice aP2x nP2x kP2x) := (bP2.alloc _).c1
  go_wp2_with fail
  clear rbP20 rbP21
  have hX : Below u21.heap.size u21 (u21.alloc (.cells #[.bool pQ2, .slice aQ2x nQ2x kQ2x] 24)) := by (repeat (first | with_reducible exact Below.refl _ _ | with_reducible assumption | refine Below.alloc ?_ (by (try simp); try omega) _ | refine Below.setCell ?_ (by (try simp); try omega) _ | refine below_drewN ?_ _ | refine Below.drew ?_ | (with_reducible refine Below.trans ?_ (Below.mono (by assumption) (by (try simp); try omega)))))
  have bQ2 : Bx (u21.alloc (.cells #[.bool pQ2, .slice aQ2x nQ2x kQ2x] 24)) (u21.heap.size) (.bool pQ2) (.slice aQ2x nQ2x kQ2x) 24 := by exact (Bx.new u21 (.bool pQ2) (.slice aQ2x nQ2x kQ2x) 24)
  have gebQ2 : w.heap.size ≤ u21.heap.size := by have := hB.size; omega
  have ltbP2bQ2 : gbP2 < u21.heap.size := by have := bP2.lt; omega
  replace G3 := G3.keep hX
  replace G4 := G4.keep hX
  replace LP2 := LP2.keep hX
  replace LQ2 := LQ2.keep hX
  replace bP2 := bP2.keep hX
  replace hB := hB.trans (hX.mono hB.size)
  clear hX
  generalize (u21.alloc (.cells #[.bool pQ2, .slice aQ2x nQ2x kQ2x] 24)) = v22 at *
  generalize u21.heap.size = gbQ2 at *
  go_at_call 35
  refine (alike_true _ _ z2 er2 _ LP2 LQ2 (by omega)).mono ?_
  rintro e u23 ⟨rfl, hb⟩
  have hk : Below v22.heap.size v22 u23 := by (repeat (first | with_reducible exact Below.refl _ _ | with_reducible assumption | refine Below.alloc ?_ (by (try simp); try omega) _ | refine Below.setCell ?_ (by (try simp); try omega) _ | refine below_drewN ?_ _ | refine Below.drew ?_ | (with_reducible refine Below.trans ?_ (Below.mono (by assumption) (by (try simp); try omega)))))
  clear hb
  replace G3 := G3.keep hk
  replace G4 := G4.keep hk
  replace LP2 := LP2.keep hk
  replace LQ2 := LQ2.keep hk
  replace bP2 := bP2.keep hk
  replace bQ2 := bQ2.keep hk
  replace hB := hB.trans (hk.mono hB.size)
  clear hk
  clear LP2 LQ2 bP2 bQ2
  go_wp2_with fail
  rw [rounds_succ]
  go_wp2_with fail
  have hX : Below u23.heap.size u23 (u23.alloc (.cells #[.bool p3, .slice a3 n3 c3'] 24)) := by (repeat (first | with_reducible exact Below.refl _ _ | with_reducible assumption | refine Below.alloc ?_ (by (try simp); try omega) _ | refine Below.setCell ?_ (by (try simp); try omega) _ | refine below_drewN ?_ _ | refine Below.drew ?_ | (with_reducible refine Below.trans ?_ (Below.mono (by assumption) (by (try simp); try omega)))))
  have bX3 : Bx (u23.alloc (.cells #[.bool p3, .slice a3 n3 c3'] 24)) (u23.heap.size) (.bool p3) (.slice a3 n3 c3') 24 := by exact (Bx.new u23 (.bool p3) (.slice a3 n3 c3') 24)
  have gebX3 : w.heap.size ≤ u23.heap.size := by have := hB.size; omega
  replace G3 := G3.keep hX
  replace G4 := G4.keep hX
  replace hB := hB.trans (hX.mono hB.size)
  clear hX
  generalize (u23.alloc (.cells #[.bool p3, .slice a3 n3 c3'] 24)) = v24 at *
  generalize u23.heap.size = gbX3 at *
  go_at_call 47
  refine (hA3.out _ _ G3).mono ?_
  rintro e u25 ⟨⟨pP3, aP3x, nP3x, kP3x, rfl, LP3⟩, hb⟩
  have hk : Below v24.heap.size v24 u25 := by (repeat (first | with_reducible exact Below.refl _ _ | with_reducible assumption | refine Below.alloc ?_ (by (try simp); try omega) _ | refine Below.setCell ?_ (by (try simp); try omega) _ | refine below_drewN ?_ _ | refine Below.drew ?_ | (with_reducible refine Below.trans ?_ (Below.mono (by assumption) (by (try simp); try omega)))))
  clear hb
  replace G3 := G3.keep hk
  replace G4 := G4.keep hk
  replace bX3 := bX3.keep hk
  replace hB := hB.trans (hk.mono hB.size)
  clear hk
  have rbX30 : (u25.alloc (.cells #[.bool pP3, .slice aP3x nP3x kP3x] 24)).cell? ⟨gbX3, 0, none⟩ = some (.bool p3) := (bX3.alloc _).c0
  have rbX31 : (u25.alloc (.cells #[.bool pP3, .slice aP3x nP3x kP3x] 24)).cell? ⟨gbX3, 1, none⟩ = some (.slice a3 n3 c3') := (bX3.alloc _).c1
  go_wp2_with fail
  clear rbX30 rbX31
  have hX : Below u25.heap.size u25 (u25.alloc (.cells #[.bool pP3, .slice aP3x nP3x kP3x] 24)) := by (repeat (first | with_reducible exact Below.refl _ _ | with_reducible assumption | refine Below.alloc ?_ (by (try simp); try omega) _ | refine Below.setCell ?_ (by (try simp); try omega) _ | refine below_drewN ?_ _ | refine Below.drew ?_ | (with_reducible refine Below.trans ?_ (Below.mono (by assumption) (by (try simp); try omega)))))
  have bP3 : Bx (u25.alloc (.cells #[.bool pP3, .slice aP3x nP3x kP3x] 24)) (u25.heap.size) (.bool pP3) (.slice aP3x nP3x kP3x) 24 := by exact (Bx.new u25 (.bool pP3) (.slice aP3x nP3x kP3x) 24)
  have gebP3 : w.heap.size ≤ u25.heap.size := by have := hB.size; omega
  have ltbX3bP3 : gbX3 < u25.heap.size := by have := bX3.lt; omega
  replace G3 := G3.keep hX
  replace G4 := G4.keep hX
  replace LP3 := LP3.keep hX
  replace bX3 := bX3.keep hX
  replace hB := hB.trans (hX.mono hB.size)
  clear hX
  generalize (u25.alloc (.cells #[.bool pP3, .slice aP3x nP3x kP3x] 24)) = v26 at *
  generalize u25.heap.size = gbP3 at *
  go_at_call 48
  refine (hB3.out _ _ G3).mono ?_
  rintro e u27 ⟨⟨pQ3, aQ3x, nQ3x, kQ3x, rfl, LQ3⟩, hb⟩
  have hk : Below v26.heap.size v26 u27 := by (repeat (first | with_reducible exact Below.refl _ _ | with_reducible assumption | refine Below.alloc ?_ (by (try simp); try omega) _ | refine Below.setCell ?_ (by (try simp); try omega) _ | refine below_drewN ?_ _ | refine Below.drew ?_ | (with_reducible refine Below.trans ?_ (Below.mono (by assumption) (by (try simp); try omega)))))
  clear hb
  replace G3 := G3.keep hk
  replace G4 := G4.keep hk
  replace LP3 := LP3.keep hk
  replace bX3 := bX3.keep hk
  replace bP3 := bP3.keep hk
  replace hB := hB.trans (hk.mono hB.size)
  clear hk
  clear G3 bX3
  have rbP30 : (u27.alloc (.cells #[.bool pQ3, .slice aQ3x nQ3x kQ3x] 24)).cell? ⟨gbP3, 0, none⟩ = some (.bool pP3) := (bP3.alloc _).c0
  have rbP31 : (u27.alloc (.cells #[.bool pQ3, .slice aQ3x nQ3x kQ3x] 24)).cell? ⟨gbP3, 1, none⟩ = some (.slice aP3x nP3x kP3x) := (bP3.alloc _).c1
  go_wp2_with fail
  clear rbP30 rbP31
  have hX : Below u27.heap.size u27 (u27.alloc (.cells #[.bool pQ3, .slice aQ3x nQ3x kQ3x] 24)) := by (repeat (first | with_reducible exact Below.refl _ _ | with_reducible assumption | refine Below.alloc ?_ (by (try simp); try omega) _ | refine Below.setCell ?_ (by (try simp); try omega) _ | refine below_drewN ?_ _ | refine Below.drew ?_ | (with_reducible refine Below.trans ?_ (Below.mono (by assumption) (by (try simp); try omega)))))
  have bQ3 : Bx (u27.alloc (.cells #[.bool pQ3, .slice aQ3x nQ3x kQ3x] 24)) (u27.heap.size) (.bool pQ3) (.slice aQ3x nQ3x kQ3x) 24 := by exact (Bx.new u27 (.bool pQ3) (.slice aQ3x nQ3x kQ3x) 24)
  have gebQ3 : w.heap.size ≤ u27.heap.size := by have := hB.size; omega
  have ltbP3bQ3 : gbP3 < u27.heap.size := by have := bP3.lt; omega
  replace G4 := G4.keep hX
  replace LP3 := LP3.keep hX
  replace LQ3 := LQ3.keep hX
  replace bP3 := bP3.keep hX
  replace hB := hB.trans (hX.mono hB.size)
  clear hX
  generalize (u27.alloc (.cells #[.bool pQ3, .slice aQ3x nQ3x kQ3x] 24)) = v28 at *
  generalize u27.heap.size = gbQ3 at *
  go_at_call 35
  refine (alike_true _ _ z3 er3 _ LP3 LQ3 (by omega)).mono ?_
  rintro e u29 ⟨rfl, hb⟩
  have hk : Below v28.heap.size v28 u29 := by (repeat (first | with_reducible exact Below.refl _ _ | with_reducible assumption | refine Below.alloc ?_ (by (try simp); try omega) _ | refine Below.setCell ?_ (by (try simp); try omega) _ | refine below_drewN ?_ _ | refine Below.drew ?_ | (with_reducible refine Below.trans ?_ (Below.mono (by assumption) (by (try simp); try omega)))))
  clear hb
  replace G4 := G4.keep hk
  replace LP3 := LP3.keep hk
  replace LQ3 := LQ3.keep hk
  replace bP3 := bP3.keep hk
  replace bQ3 := bQ3.keep hk
  replace hB := hB.trans (hk.mono hB.size)
  clear hk
  clear LP3 LQ3 bP3 bQ3
  go_wp2_with fail
  rw [rounds_succ]
  go_wp2_with fail
  have hX : Below u29.heap.size u29 (u29.alloc (.cells #[.bool p4, .slice a4 n4 c4'] 24)) := by (repeat (first | with_reducible exact Below.refl _ _ | with_reducible assumption | refine Below.alloc ?_ (by (try simp); try omega) _ | refine Below.setCell ?_ (by (try simp); try omega) _ | refine below_drewN ?_ _ | refine Below.drew ?_ | (with_reducible refine Below.trans ?_ (Below.mono (by assumption) (by (try simp); try omega)))))
  have bX4 : Bx (u29.alloc (.cells #[.bool p4, .slice a4 n4 c4'] 24)) (u29.heap.size) (.bool p4) (.slice a4 n4 c4') 24 := by exact (Bx.new u29 (.bool p4) (.slice a4 n4 c4') 24)
  have gebX4 : w.heap.size ≤ u29.heap.size := by have := hB.size; omega
  replace G4 := G4.keep hX
  replace hB := hB.trans (hX.mono hB.size)
  clear hX
  generalize (u29.alloc (.cells #[.bool p4, .slice a4 n4 c4'] 24)) = v30 at *
  generalize u29.heap.size = gbX4 at *
  go_at_call 47
  refine (hA4.out _ _ G4).mono ?_
  rintro e u31 ⟨⟨pP4, aP4x, nP4x, kP4x, rfl, LP4⟩, hb⟩
  have hk : Below v30.heap.size v30 u31 := by (repeat (first | with_reducible exact Below.refl _ _ | with_reducible assumption | refine Below.alloc ?_ (by (try simp); try omega) _ | refine Below.setCell ?_ (by (try simp); try omega) _ | refine below_drewN ?_ _ | refine Below.drew ?_ | (with_reducible refine Below.trans ?_ (Below.mono (by assumption) (by (try simp); try omega)))))
  clear hb
  replace G4 := G4.keep hk
  replace bX4 := bX4.keep hk
  replace hB := hB.trans (hk.mono hB.size)
  clear hk
  have rbX40 : (u31.alloc (.cells #[.bool pP4, .slice aP4x nP4x kP4x] 24)).cell? ⟨gbX4, 0, none⟩ = some (.bool p4) := (bX4.alloc _).c0
  have rbX41 : (u31.alloc (.cells #[.bool pP4, .slice aP4x nP4x kP4x] 24)).cell? ⟨gbX4, 1, none⟩ = some (.slice a4 n4 c4') := (bX4.alloc _).c1
  go_wp2_with fail
  clear rbX40 rbX41
  have hX : Below u31.heap.size u31 (u31.alloc (.cells #[.bool pP4, .slice aP4x nP4x kP4x] 24)) := by (repeat (first | with_reducible exact Below.refl _ _ | with_reducible assumption | refine Below.alloc ?_ (by (try simp); try omega) _ | refine Below.setCell ?_ (by (try simp); try omega) _ | refine below_drewN ?_ _ | refine Below.drew ?_ | (with_reducible refine Below.trans ?_ (Below.mono (by assumption) (by (try simp); try omega)))))
  have bP4 : Bx (u31.alloc (.cells #[.bool pP4, .slice aP4x nP4x kP4x] 24)) (u31.heap.size) (.bool pP4) (.slice aP4x nP4x kP4x) 24 := by exact (Bx.new u31 (.bool pP4) (.slice aP4x nP4x kP4x) 24)
  have gebP4 : w.heap.size ≤ u31.heap.size := by have := hB.size; omega
  have ltbX4bP4 : gbX4 < u31.heap.size := by have := bX4.lt; omega
  replace G4 := G4.keep hX
  replace LP4 := LP4.keep hX
  replace bX4 := bX4.keep hX
  replace hB := hB.trans (hX.mono hB.size)
  clear hX
  generalize (u31.alloc (.cells #[.bool pP4, .slice aP4x nP4x kP4x] 24)) = v32 at *
  generalize u31.heap.size = gbP4 at *
  go_at_call 48
  refine (hB4.out _ _ G4).mono ?_
  rintro e u33 ⟨⟨pQ4, aQ4x, nQ4x, kQ4x, rfl, LQ4⟩, hb⟩
  have hk : Below v32.heap.size v32 u33 := by (repeat (first | with_reducible exact Below.refl _ _ | with_reducible assumption | refine Below.alloc ?_ (by (try simp); try omega) _ | refine Below.setCell ?_ (by (try simp); try omega) _ | refine below_drewN ?_ _ | refine Below.drew ?_ | (with_reducible refine Below.trans ?_ (Below.mono (by assumption) (by (try simp); try omega)))))
  clear hb
  replace G4 := G4.keep hk
  replace LP4 := LP4.keep hk
  replace bX4 := bX4.keep hk
  replace bP4 := bP4.keep hk
  replace hB := hB.trans (hk.mono hB.size)
  clear hk
  clear G4 bX4
  have rbP40 : (u33.alloc (.cells #[.bool pQ4, .slice aQ4x nQ4x kQ4x] 24)).cell? ⟨gbP4, 0, none⟩ = some (.bool pP4) := (bP4.alloc _).c0
  have rbP41 : (u33.alloc (.cells #[.bool pQ4, .slice aQ4x nQ4x kQ4x] 24)).cell? ⟨gbP4, 1, none⟩ = some (.slice aP4x nP4x kP4x) := (bP4.alloc _).c1
  go_wp2_with fail
  clear rbP40 rbP41
  have hX : Below u33.heap.size u33 (u33.alloc (.cells #[.bool pQ4, .slice aQ4x nQ4x kQ4x] 24)) := by (repeat (first | with_reducible exact Below.refl _ _ | with_reducible assumption | refine Below.alloc ?_ (by (try simp); try omega) _ | refine Below.setCell ?_ (by (try simp); try omega) _ | refine below_drewN ?_ _ | refine Below.drew ?_ | (with_reducible refine Below.trans ?_ (Below.mono (by assumption) (by (try simp); try omega)))))
  have bQ4 : Bx (u33.alloc (.cells #[.bool pQ4, .slice aQ4x nQ4x kQ4x] 24)) (u33.heap.size) (.bool pQ4) (.slice aQ4x nQ4x kQ4x) 24 := by exact (Bx.new u33 (.bool pQ4) (.slice aQ4x nQ4x kQ4x) 24)
  have gebQ4 : w.heap.size ≤ u33.heap.size := by have := hB.size; omega
  have ltbP4bQ4 : gbP4 < u33.heap.size := by have := bP4.lt; omega
  replace LP4 := LP4.keep hX
  replace LQ4 := LQ4.keep hX
  replace bP4 := bP4.keep hX
  replace hB := hB.trans (hX.mono hB.size)
  clear hX
  generalize (u33.alloc (.cells #[.bool pQ4, .slice aQ4x nQ4x kQ4x] 24)) = v34 at *
  generalize u33.heap.size = gbQ4 at *
  go_at_call 35
  refine (alike_true _ _ z4 er4 _ LP4 LQ4 (by omega)).mono ?_
  rintro e u35 ⟨rfl, hb⟩
  have hk : Below v34.heap.size v34 u35 := by (repeat (first | with_reducible exact Below.refl _ _ | with_reducible assumption | refine Below.alloc ?_ (by (try simp); try omega) _ | refine Below.setCell ?_ (by (try simp); try omega) _ | refine below_drewN ?_ _ | refine Below.drew ?_ | (with_reducible refine Below.trans ?_ (Below.mono (by assumption) (by (try simp); try omega)))))
  clear hb
  replace LP4 := LP4.keep hk
  replace LQ4 := LQ4.keep hk
  replace bP4 := bP4.keep hk
  replace bQ4 := bQ4.keep hk
  replace hB := hB.trans (hk.mono hB.size)
  clear hk
  clear LP4 LQ4 bP4 bQ4
  go_wp2_with fail
  rw [rounds_succ]
  go_wp2
  go_ret
  exact ⟨rfl, hB⟩
end Go.Proofs.YtoppdbgodceaiaaDoor
