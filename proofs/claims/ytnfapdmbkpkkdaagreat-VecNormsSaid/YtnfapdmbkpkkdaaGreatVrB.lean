/-
  The reference of layer 6: its functions.
-/
import Derived.Test.YtnfapdmbkpkkdaaGreatVrA
namespace Go.Proofs.YtnfapdmbkpkkdaaGreat
open Go.RowKit

theorem fo_ne {x y : Int} (h : x ≠ 0) : fo x y = x := if_neg h
theorem add_zero {a b c d : Int} (h : (sAddR a b c d).2.2 ≠ 0) : (sAddR a b c d).1 = 0 ∧ (sAddR a b c d).2.1 = 0 := by
  unfold sAddR at h ⊢
  split
  · rename_i c; rw [if_pos c] at h; unfold limS at h ⊢; split
    · rename_i c'; rw [if_pos c'] at h; exact absurd rfl h
    · exact ⟨rfl, rfl⟩
  · exact ⟨rfl, rfl⟩
theorem sub_zero {a b c d : Int} (h : (sSubR a b c d).2.2 ≠ 0) : (sSubR a b c d).1 = 0 ∧ (sSubR a b c d).2.1 = 0 := by
  unfold sSubR at h ⊢
  split
  · rename_i c; rw [if_pos c] at h; unfold limS at h ⊢; split
    · rename_i c'; rw [if_pos c'] at h; exact absurd rfl h
    · exact ⟨rfl, rfl⟩
  · exact ⟨rfl, rfl⟩
theorem rFirst2_b (q : Nat) (e f : Int) (w : World) (c0 : w.cell? ⟨q, 0, none⟩ = some (.int .i64 e)) (c1 : w.cell? ⟨q, 1, none⟩ = some (.int .i64 f)) :
    Calls Tryz.prog 71 #[.slice (some ⟨q, 0, none⟩) 2 2] w fun r w' => r = .returned (.int .i64 (fo e f)) ∧ Below w.heap.size w w' :=
  (rFirst2_any q e f w c0 c1).mono fun _ _ h => ⟨h.1, h.2 ▸ Below.refl _ _⟩
theorem rFirst3_b (q : Nat) (e f g : Int) (w : World) (c0 : w.cell? ⟨q, 0, none⟩ = some (.int .i64 e)) (c1 : w.cell? ⟨q, 1, none⟩ = some (.int .i64 f)) (c2 : w.cell? ⟨q, 2, none⟩ = some (.int .i64 g)) :
    Calls Tryz.prog 71 #[.slice (some ⟨q, 0, none⟩) 3 3] w fun r w' => r = .returned (.int .i64 (fo e (fo f g))) ∧ Below w.heap.size w w' :=
  (rFirst3_any q e f g w c0 c1 c2).mono fun _ _ h => ⟨h.1, h.2 ▸ Below.refl _ _⟩
set_option maxRecDepth 100000 in
set_option maxHeartbeats 4000000 in
theorem rVector_ok (x0 x1 y0 y1 z0 z1 : Int) (w : World) :
    Calls Tryz.prog 41 #[.agg #[.int .i64 x0, .int .i64 x1], .int .i64 0, .agg #[.int .i64 y0, .int .i64 y1], .int .i64 0, .agg #[.int .i64 z0, .int .i64 z1], .int .i64 0] w fun r w' => r = .returned (.tuple #[.agg #[.int .i64 x0, .int .i64 x1, .int .i64 y0, .int .i64 y1, .int .i64 z0, .int .i64 z1], .int .i64 0]) ∧ Below w.heap.size w w' := by
  have bX0 := Bn.new w #[.int .i64 x0, .int .i64 x1] 23
  replace bX0 := bX0.alloc (.cells #[.int .i64 y0, .int .i64 y1] 23)
  replace bX0 := bX0.alloc (.cells #[.int .i64 z0, .int .i64 z1] 23)
  replace bX0 := bX0.alloc (.cells #[.int .i64 0, .int .i64 0, .int .i64 0, .int .i64 0, .int .i64 0, .int .i64 0] 25)
  have bX2 := Bn.new (w.alloc (.cells #[.int .i64 x0, .int .i64 x1] 23)) #[.int .i64 y0, .int .i64 y1] 23
  rw [show (w.alloc (.cells #[.int .i64 x0, .int .i64 x1] 23)).heap.size = w.heap.size + 1 by simp] at bX2
  replace bX2 := bX2.alloc (.cells #[.int .i64 z0, .int .i64 z1] 23)
  replace bX2 := bX2.alloc (.cells #[.int .i64 0, .int .i64 0, .int .i64 0, .int .i64 0, .int .i64 0, .int .i64 0] 25)
  have bX4 := Bn.new ((w.alloc (.cells #[.int .i64 x0, .int .i64 x1] 23)).alloc (.cells #[.int .i64 y0, .int .i64 y1] 23)) #[.int .i64 z0, .int .i64 z1] 23
  rw [show ((w.alloc (.cells #[.int .i64 x0, .int .i64 x1] 23)).alloc (.cells #[.int .i64 y0, .int .i64 y1] 23)).heap.size = w.heap.size + 2 by simp] at bX4
  replace bX4 := bX4.alloc (.cells #[.int .i64 0, .int .i64 0, .int .i64 0, .int .i64 0, .int .i64 0, .int .i64 0] 25)
  have bZ := Bn.new (((w.alloc (.cells #[.int .i64 x0, .int .i64 x1] 23)).alloc (.cells #[.int .i64 y0, .int .i64 y1] 23)).alloc (.cells #[.int .i64 z0, .int .i64 z1] 23)) #[.int .i64 0, .int .i64 0, .int .i64 0, .int .i64 0, .int .i64 0, .int .i64 0] 25
  rw [show (((w.alloc (.cells #[.int .i64 x0, .int .i64 x1] 23)).alloc (.cells #[.int .i64 y0, .int .i64 y1] 23)).alloc (.cells #[.int .i64 z0, .int .i64 z1] 23)).heap.size = w.heap.size + 3 by simp] at bZ
  have hB : Below w.heap.size w ((((w.alloc (.cells #[.int .i64 x0, .int .i64 x1] 23)).alloc (.cells #[.int .i64 y0, .int .i64 y1] 23)).alloc (.cells #[.int .i64 z0, .int .i64 z1] 23)).alloc (.cells #[.int .i64 0, .int .i64 0, .int .i64 0, .int .i64 0, .int .i64 0, .int .i64 0] 25)) := by (repeat (first | with_reducible exact Below.refl _ _ | with_reducible assumption | refine Below.alloc ?_ (by (try simp); try omega) _ | refine Below.setCell ?_ (by (try simp); try omega) _ | refine below_drewN ?_ _ | refine Below.drew ?_ | (with_reducible refine Below.trans ?_ (Below.mono (by assumption) (by (try simp); try omega)))))
  generalize hv : ((((w.alloc (.cells #[.int .i64 x0, .int .i64 x1] 23)).alloc (.cells #[.int .i64 y0, .int .i64 y1] 23)).alloc (.cells #[.int .i64 z0, .int .i64 z1] 23)).alloc (.cells #[.int .i64 0, .int .i64 0, .int .i64 0, .int .i64 0, .int .i64 0, .int .i64 0] 25)) = v0 at *
  generalize hn : w.heap.size = n at *
  subst hv
  subst hn
  go_enter Tryz.func41, Tryz.ntmps41
  go_wp2_with fail
  go_at_call 71
  refine (rFirst3_b _ 0 0 0 _ ?_ ?_ ?_).mono ?_
  · simp [go_sem]
  · simp [go_sem]
  · simp [go_sem]
  rintro r u1 ⟨rfl, hb⟩
  rw [show fo 0 (fo 0 0) = 0 from rfl]
  replace bX0 := (bX0.alloc (.cells #[.int .i64 0, .int .i64 0, .int .i64 0] 37)).keep hb
  replace bX2 := (bX2.alloc (.cells #[.int .i64 0, .int .i64 0, .int .i64 0] 37)).keep hb
  replace bX4 := (bX4.alloc (.cells #[.int .i64 0, .int .i64 0, .int .i64 0] 37)).keep hb
  replace bZ := (bZ.alloc (.cells #[.int .i64 0, .int .i64 0, .int .i64 0] 37)).keep hb
  replace hB := (hB.alloc (by have := hB.size; omega) (.cells #[.int .i64 0, .int .i64 0, .int .i64 0] 37)).trans (hb.mono (by have := hB.size; simp; omega))
  clear hb
  generalize hn : w.heap.size = n at *
  have cX00 : u1.cell? ⟨n, 0, none⟩ = some (.int .i64 x0) := bX0.cell 0 _ rfl
  have cX01 : u1.cell? ⟨n, 1, none⟩ = some (.int .i64 x1) := bX0.cell 1 _ rfl
  have kX0 := bX0.lt
  have cX20 : u1.cell? ⟨n + 1, 0, none⟩ = some (.int .i64 y0) := bX2.cell 0 _ rfl
  have cX21 : u1.cell? ⟨n + 1, 1, none⟩ = some (.int .i64 y1) := bX2.cell 1 _ rfl
  have kX2 := bX2.lt
  have cX40 : u1.cell? ⟨n + 2, 0, none⟩ = some (.int .i64 z0) := bX4.cell 0 _ rfl
  have cX41 : u1.cell? ⟨n + 2, 1, none⟩ = some (.int .i64 z1) := bX4.cell 1 _ rfl
  have kX4 := bX4.lt
  have cZ0 : u1.cell? ⟨n + 3, 0, none⟩ = some (.int .i64 0) := bZ.cell 0 _ rfl
  have cZ1 : u1.cell? ⟨n + 3, 1, none⟩ = some (.int .i64 0) := bZ.cell 1 _ rfl
  have cZ2 : u1.cell? ⟨n + 3, 2, none⟩ = some (.int .i64 0) := bZ.cell 2 _ rfl
  have cZ3 : u1.cell? ⟨n + 3, 3, none⟩ = some (.int .i64 0) := bZ.cell 3 _ rfl
  have cZ4 : u1.cell? ⟨n + 3, 4, none⟩ = some (.int .i64 0) := bZ.cell 4 _ rfl
  have cZ5 : u1.cell? ⟨n + 3, 5, none⟩ = some (.int .i64 0) := bZ.cell 5 _ rfl
  have kZ := bZ.lt
  have zZ0 : u1.frozen? ⟨n + 3, 0, none⟩ = false := bZ.f 0
  have zZ1 : u1.frozen? ⟨n + 3, 1, none⟩ = false := bZ.f 1
  have zZ2 : u1.frozen? ⟨n + 3, 2, none⟩ = false := bZ.f 2
  have zZ3 : u1.frozen? ⟨n + 3, 3, none⟩ = false := bZ.f 3
  have zZ4 : u1.frozen? ⟨n + 3, 4, none⟩ = false := bZ.f 4
  have zZ5 : u1.frozen? ⟨n + 3, 5, none⟩ = false := bZ.f 5
  go_wp2
  refine bodyPost_ret (v := .tuple #[.agg #[.int .i64 x0, .int .i64 x1, .int .i64 y0, .int .i64 y1, .int .i64 z0, .int .i64 z1], .int .i64 0]) (by simp [results, Tryz.results41, go_sem, cZ0, zZ0, cZ1, zZ1, cZ2, zZ2, cZ3, zZ3, cZ4, zZ4, cZ5, zZ5, kZ]) rfl ⟨rfl, ?_⟩
  subst hn
  exact below6 hB (show w.heap.size ≤ w.heap.size + 3 by omega) _ _ _ _ _ _
set_option maxRecDepth 100000 in
set_option maxHeartbeats 4000000 in
theorem rVector_no (x0 x1 y0 y1 z0 z1 e f g : Int) (h : fo e (fo f g) ≠ 0) (w : World) :
    Calls Tryz.prog 41 #[.agg #[.int .i64 x0, .int .i64 x1], .int .i64 e, .agg #[.int .i64 y0, .int .i64 y1], .int .i64 f, .agg #[.int .i64 z0, .int .i64 z1], .int .i64 g] w fun r w' => r = .returned (.tuple #[.agg #[.int .i64 0, .int .i64 0, .int .i64 0, .int .i64 0, .int .i64 0, .int .i64 0], .int .i64 (fo e (fo f g))]) ∧ Below w.heap.size w w' := by
  have bX0 := Bn.new w #[.int .i64 x0, .int .i64 x1] 23
  replace bX0 := bX0.alloc (.cells #[.int .i64 y0, .int .i64 y1] 23)
  replace bX0 := bX0.alloc (.cells #[.int .i64 z0, .int .i64 z1] 23)
  replace bX0 := bX0.alloc (.cells #[.int .i64 0, .int .i64 0, .int .i64 0, .int .i64 0, .int .i64 0, .int .i64 0] 25)
  have bX2 := Bn.new (w.alloc (.cells #[.int .i64 x0, .int .i64 x1] 23)) #[.int .i64 y0, .int .i64 y1] 23
  rw [show (w.alloc (.cells #[.int .i64 x0, .int .i64 x1] 23)).heap.size = w.heap.size + 1 by simp] at bX2
  replace bX2 := bX2.alloc (.cells #[.int .i64 z0, .int .i64 z1] 23)
  replace bX2 := bX2.alloc (.cells #[.int .i64 0, .int .i64 0, .int .i64 0, .int .i64 0, .int .i64 0, .int .i64 0] 25)
  have bX4 := Bn.new ((w.alloc (.cells #[.int .i64 x0, .int .i64 x1] 23)).alloc (.cells #[.int .i64 y0, .int .i64 y1] 23)) #[.int .i64 z0, .int .i64 z1] 23
  rw [show ((w.alloc (.cells #[.int .i64 x0, .int .i64 x1] 23)).alloc (.cells #[.int .i64 y0, .int .i64 y1] 23)).heap.size = w.heap.size + 2 by simp] at bX4
  replace bX4 := bX4.alloc (.cells #[.int .i64 0, .int .i64 0, .int .i64 0, .int .i64 0, .int .i64 0, .int .i64 0] 25)
  have bZ := Bn.new (((w.alloc (.cells #[.int .i64 x0, .int .i64 x1] 23)).alloc (.cells #[.int .i64 y0, .int .i64 y1] 23)).alloc (.cells #[.int .i64 z0, .int .i64 z1] 23)) #[.int .i64 0, .int .i64 0, .int .i64 0, .int .i64 0, .int .i64 0, .int .i64 0] 25
  rw [show (((w.alloc (.cells #[.int .i64 x0, .int .i64 x1] 23)).alloc (.cells #[.int .i64 y0, .int .i64 y1] 23)).alloc (.cells #[.int .i64 z0, .int .i64 z1] 23)).heap.size = w.heap.size + 3 by simp] at bZ
  have hB : Below w.heap.size w ((((w.alloc (.cells #[.int .i64 x0, .int .i64 x1] 23)).alloc (.cells #[.int .i64 y0, .int .i64 y1] 23)).alloc (.cells #[.int .i64 z0, .int .i64 z1] 23)).alloc (.cells #[.int .i64 0, .int .i64 0, .int .i64 0, .int .i64 0, .int .i64 0, .int .i64 0] 25)) := by (repeat (first | with_reducible exact Below.refl _ _ | with_reducible assumption | refine Below.alloc ?_ (by (try simp); try omega) _ | refine Below.setCell ?_ (by (try simp); try omega) _ | refine below_drewN ?_ _ | refine Below.drew ?_ | (with_reducible refine Below.trans ?_ (Below.mono (by assumption) (by (try simp); try omega)))))
  generalize hv : ((((w.alloc (.cells #[.int .i64 x0, .int .i64 x1] 23)).alloc (.cells #[.int .i64 y0, .int .i64 y1] 23)).alloc (.cells #[.int .i64 z0, .int .i64 z1] 23)).alloc (.cells #[.int .i64 0, .int .i64 0, .int .i64 0, .int .i64 0, .int .i64 0, .int .i64 0] 25)) = v0 at *
  generalize hn : w.heap.size = n at *
  subst hv
  subst hn
  go_enter Tryz.func41, Tryz.ntmps41
  go_wp2_with fail
  go_at_call 71
  refine (rFirst3_b _ e f g _ ?_ ?_ ?_).mono ?_
  · simp [go_sem]
  · simp [go_sem]
  · simp [go_sem]
  rintro r u1 ⟨rfl, hb⟩
  replace bX0 := (bX0.alloc (.cells #[.int .i64 e, .int .i64 f, .int .i64 g] 37)).keep hb
  replace bX2 := (bX2.alloc (.cells #[.int .i64 e, .int .i64 f, .int .i64 g] 37)).keep hb
  replace bX4 := (bX4.alloc (.cells #[.int .i64 e, .int .i64 f, .int .i64 g] 37)).keep hb
  replace bZ := (bZ.alloc (.cells #[.int .i64 e, .int .i64 f, .int .i64 g] 37)).keep hb
  replace hB := (hB.alloc (by have := hB.size; omega) (.cells #[.int .i64 e, .int .i64 f, .int .i64 g] 37)).trans (hb.mono (by have := hB.size; simp; omega))
  clear hb
  generalize hn : w.heap.size = n at *
  have y : (fo e (fo f g) == 0) = false := beq_eq_false_iff_ne.2 h
  have cZ0 : u1.cell? ⟨n + 3, 0, none⟩ = some (.int .i64 0) := bZ.cell 0 _ rfl
  have cZ1 : u1.cell? ⟨n + 3, 1, none⟩ = some (.int .i64 0) := bZ.cell 1 _ rfl
  have cZ2 : u1.cell? ⟨n + 3, 2, none⟩ = some (.int .i64 0) := bZ.cell 2 _ rfl
  have cZ3 : u1.cell? ⟨n + 3, 3, none⟩ = some (.int .i64 0) := bZ.cell 3 _ rfl
  have cZ4 : u1.cell? ⟨n + 3, 4, none⟩ = some (.int .i64 0) := bZ.cell 4 _ rfl
  have cZ5 : u1.cell? ⟨n + 3, 5, none⟩ = some (.int .i64 0) := bZ.cell 5 _ rfl
  have kZ := bZ.lt
  have zZ0 : u1.frozen? ⟨n + 3, 0, none⟩ = false := bZ.f 0
  have zZ1 : u1.frozen? ⟨n + 3, 1, none⟩ = false := bZ.f 1
  have zZ2 : u1.frozen? ⟨n + 3, 2, none⟩ = false := bZ.f 2
  have zZ3 : u1.frozen? ⟨n + 3, 3, none⟩ = false := bZ.f 3
  have zZ4 : u1.frozen? ⟨n + 3, 4, none⟩ = false := bZ.f 4
  have zZ5 : u1.frozen? ⟨n + 3, 5, none⟩ = false := bZ.f 5
  go_wp2
  refine bodyPost_ret (v := .tuple #[.agg #[.int .i64 0, .int .i64 0, .int .i64 0, .int .i64 0, .int .i64 0, .int .i64 0], .int .i64 (fo e (fo f g))]) (by simp [results, Tryz.results41, go_sem, cZ0, zZ0, cZ1, zZ1, cZ2, zZ2, cZ3, zZ3, cZ4, zZ4, cZ5, zZ5, kZ]) rfl ⟨rfl, ?_⟩
  subst hn
  exact below6 hB (show w.heap.size ≤ w.heap.size + 3 by omega) _ _ _ _ _ _
theorem fo3_zero {e f g : Int} (h : fo e (fo f g) = 0) : e = 0 ∧ f = 0 ∧ g = 0 := by
  unfold fo at h
  by_cases c : e = 0
  · rw [if_pos c] at h
    by_cases d : f = 0
    · rw [if_pos d] at h; exact ⟨c, d, h⟩
    · rw [if_neg d] at h; exact absurd h d
  · rw [if_neg c] at h; exact absurd h c
theorem fo2_zero {e f : Int} (h : fo e f = 0) : e = 0 ∧ f = 0 := by
  unfold fo at h
  by_cases c : e = 0
  · rw [if_pos c] at h; exact ⟨c, h⟩
  · rw [if_neg c] at h; exact absurd h c
theorem rVector_any (x0 x1 y0 y1 z0 z1 e f g : Int) (w : World) :
    Calls Tryz.prog 41 #[.agg #[.int .i64 x0, .int .i64 x1], .int .i64 e, .agg #[.int .i64 y0, .int .i64 y1], .int .i64 f, .agg #[.int .i64 z0, .int .i64 z1], .int .i64 g] w fun r w' => r = .returned (.tuple #[.agg #[.int .i64 (vTold (fo e (fo f g)) ⟨x0, x1, y0, y1, z0, z1, 0⟩).x0, .int .i64 (vTold (fo e (fo f g)) ⟨x0, x1, y0, y1, z0, z1, 0⟩).x1, .int .i64 (vTold (fo e (fo f g)) ⟨x0, x1, y0, y1, z0, z1, 0⟩).y0, .int .i64 (vTold (fo e (fo f g)) ⟨x0, x1, y0, y1, z0, z1, 0⟩).y1, .int .i64 (vTold (fo e (fo f g)) ⟨x0, x1, y0, y1, z0, z1, 0⟩).z0, .int .i64 (vTold (fo e (fo f g)) ⟨x0, x1, y0, y1, z0, z1, 0⟩).z1], .int .i64 (vTold (fo e (fo f g)) ⟨x0, x1, y0, y1, z0, z1, 0⟩).e]) ∧ Below w.heap.size w w' := by
  unfold vTold
  by_cases h : fo e (fo f g) = 0
  · obtain ⟨rfl, rfl, rfl⟩ := fo3_zero h
    rw [if_pos h]
    exact rVector_ok x0 x1 y0 y1 z0 z1 w
  · rw [if_neg h]
    exact rVector_no x0 x1 y0 y1 z0 z1 e f g h w
set_option maxRecDepth 100000 in
set_option maxHeartbeats 4000000 in
theorem rLess_ok (p0 p1 q0 q1 r0 r1 s0 s1 : Int) (e1 : (sMulR p0 p1 q0 q1).2.2 = 0) (e2 : (sMulR r0 r1 s0 s1).2.2 = 0) (w : World) :
    Calls Tryz.prog 56 #[.agg #[.int .i64 p0, .int .i64 p1], .agg #[.int .i64 q0, .int .i64 q1], .agg #[.int .i64 r0, .int .i64 r1], .agg #[.int .i64 s0, .int .i64 s1]] w fun r w' => r = .returned (.tuple #[.agg #[.int .i64 (vCompM p0 p1 q0 q1 r0 r1 s0 s1).1, .int .i64 (vCompM p0 p1 q0 q1 r0 r1 s0 s1).2.1], .int .i64 (vCompM p0 p1 q0 q1 r0 r1 s0 s1).2.2]) ∧ Below w.heap.size w w' := by
  unfold vCompM
  have h1 := fun w => rMul_any p0 p1 q0 q1 w
  have h2 := fun w => rMul_any r0 r1 s0 s1 w
  rw [e1] at h1
  rw [e2] at h2
  generalize sMulR p0 p1 q0 q1 = m at *
  generalize sMulR r0 r1 s0 s1 = k at *
  have h3 := fun w => rSub_any m.1 m.2.1 k.1 k.2.1 w
  generalize sSubR m.1 m.2.1 k.1 k.2.1 = t at *
  clear e1 e2
  have bX0 := Bn.new w #[.int .i64 p0, .int .i64 p1] 23
  replace bX0 := bX0.alloc (.cells #[.int .i64 q0, .int .i64 q1] 23)
  replace bX0 := bX0.alloc (.cells #[.int .i64 r0, .int .i64 r1] 23)
  replace bX0 := bX0.alloc (.cells #[.int .i64 s0, .int .i64 s1] 23)
  replace bX0 := bX0.alloc (.cells #[.int .i64 0, .int .i64 0] 23)
  have bX1 := Bn.new (w.alloc (.cells #[.int .i64 p0, .int .i64 p1] 23)) #[.int .i64 q0, .int .i64 q1] 23
  rw [show (w.alloc (.cells #[.int .i64 p0, .int .i64 p1] 23)).heap.size = w.heap.size + 1 by simp] at bX1
  replace bX1 := bX1.alloc (.cells #[.int .i64 r0, .int .i64 r1] 23)
  replace bX1 := bX1.alloc (.cells #[.int .i64 s0, .int .i64 s1] 23)
  replace bX1 := bX1.alloc (.cells #[.int .i64 0, .int .i64 0] 23)
  have bX2 := Bn.new ((w.alloc (.cells #[.int .i64 p0, .int .i64 p1] 23)).alloc (.cells #[.int .i64 q0, .int .i64 q1] 23)) #[.int .i64 r0, .int .i64 r1] 23
  rw [show ((w.alloc (.cells #[.int .i64 p0, .int .i64 p1] 23)).alloc (.cells #[.int .i64 q0, .int .i64 q1] 23)).heap.size = w.heap.size + 2 by simp] at bX2
  replace bX2 := bX2.alloc (.cells #[.int .i64 s0, .int .i64 s1] 23)
  replace bX2 := bX2.alloc (.cells #[.int .i64 0, .int .i64 0] 23)
  have bX3 := Bn.new (((w.alloc (.cells #[.int .i64 p0, .int .i64 p1] 23)).alloc (.cells #[.int .i64 q0, .int .i64 q1] 23)).alloc (.cells #[.int .i64 r0, .int .i64 r1] 23)) #[.int .i64 s0, .int .i64 s1] 23
  rw [show (((w.alloc (.cells #[.int .i64 p0, .int .i64 p1] 23)).alloc (.cells #[.int .i64 q0, .int .i64 q1] 23)).alloc (.cells #[.int .i64 r0, .int .i64 r1] 23)).heap.size = w.heap.size + 3 by simp] at bX3
  replace bX3 := bX3.alloc (.cells #[.int .i64 0, .int .i64 0] 23)
  have bZ := Bn.new ((((w.alloc (.cells #[.int .i64 p0, .int .i64 p1] 23)).alloc (.cells #[.int .i64 q0, .int .i64 q1] 23)).alloc (.cells #[.int .i64 r0, .int .i64 r1] 23)).alloc (.cells #[.int .i64 s0, .int .i64 s1] 23)) #[.int .i64 0, .int .i64 0] 23
  rw [show ((((w.alloc (.cells #[.int .i64 p0, .int .i64 p1] 23)).alloc (.cells #[.int .i64 q0, .int .i64 q1] 23)).alloc (.cells #[.int .i64 r0, .int .i64 r1] 23)).alloc (.cells #[.int .i64 s0, .int .i64 s1] 23)).heap.size = w.heap.size + 4 by simp] at bZ
  have hB : Below w.heap.size w (((((w.alloc (.cells #[.int .i64 p0, .int .i64 p1] 23)).alloc (.cells #[.int .i64 q0, .int .i64 q1] 23)).alloc (.cells #[.int .i64 r0, .int .i64 r1] 23)).alloc (.cells #[.int .i64 s0, .int .i64 s1] 23)).alloc (.cells #[.int .i64 0, .int .i64 0] 23)) := by (repeat (first | with_reducible exact Below.refl _ _ | with_reducible assumption | refine Below.alloc ?_ (by (try simp); try omega) _ | refine Below.setCell ?_ (by (try simp); try omega) _ | refine below_drewN ?_ _ | refine Below.drew ?_ | (with_reducible refine Below.trans ?_ (Below.mono (by assumption) (by (try simp); try omega)))))
  generalize hv : (((((w.alloc (.cells #[.int .i64 p0, .int .i64 p1] 23)).alloc (.cells #[.int .i64 q0, .int .i64 q1] 23)).alloc (.cells #[.int .i64 r0, .int .i64 r1] 23)).alloc (.cells #[.int .i64 s0, .int .i64 s1] 23)).alloc (.cells #[.int .i64 0, .int .i64 0] 23)) = v0 at *
  generalize hn : w.heap.size = n at *
  have cX00 : v0.cell? ⟨n, 0, none⟩ = some (.int .i64 p0) := bX0.cell 0 _ rfl
  have cX01 : v0.cell? ⟨n, 1, none⟩ = some (.int .i64 p1) := bX0.cell 1 _ rfl
  have kX0 := bX0.lt
  have cX10 : v0.cell? ⟨n + 1, 0, none⟩ = some (.int .i64 q0) := bX1.cell 0 _ rfl
  have cX11 : v0.cell? ⟨n + 1, 1, none⟩ = some (.int .i64 q1) := bX1.cell 1 _ rfl
  have kX1 := bX1.lt
  subst hv
  subst hn
  go_enter Tryz.func56, Tryz.ntmps56
  go_wp2_with fail
  go_at_call 51
  refine (h1 _).mono ?_
  rintro r u1 ⟨rfl, hb⟩
  replace bX0 := bX0.keep hb
  replace bX1 := bX1.keep hb
  replace bX2 := bX2.keep hb
  replace bX3 := bX3.keep hb
  replace bZ := bZ.keep hb
  replace hB := hB.trans (hb.mono hB.size)
  clear hb cX00 cX01 kX0 cX10 cX11 kX1
  generalize hn : w.heap.size = n at *
  have lX0 := bX0.lt
  have lX1 := bX1.lt
  have lX2 := bX2.lt
  have lX3 := bX3.lt
  have lZ := bZ.lt
  have hsz : n ≤ u1.heap.size := by have := hB.size; omega
  try clear oZ oB
  have oZ := bZ
  have oB := hB
  have bM := Bn.new u1 #[.int .i64 m.1, .int .i64 m.2.1] 23
  replace bX0 := bX0.alloc (.cells #[.int .i64 m.1, .int .i64 m.2.1] 23)
  replace bX1 := bX1.alloc (.cells #[.int .i64 m.1, .int .i64 m.2.1] 23)
  replace bX2 := bX2.alloc (.cells #[.int .i64 m.1, .int .i64 m.2.1] 23)
  replace bX3 := bX3.alloc (.cells #[.int .i64 m.1, .int .i64 m.2.1] 23)
  replace bZ := bZ.alloc (.cells #[.int .i64 m.1, .int .i64 m.2.1] 23)
  replace hB := hB.alloc hsz (.cells #[.int .i64 m.1, .int .i64 m.2.1] 23)
  have cX20 : (u1.alloc (.cells #[.int .i64 m.1, .int .i64 m.2.1] 23)).cell? ⟨n + 2, 0, none⟩ = some (.int .i64 r0) := bX2.cell 0 _ rfl
  have cX21 : (u1.alloc (.cells #[.int .i64 m.1, .int .i64 m.2.1] 23)).cell? ⟨n + 2, 1, none⟩ = some (.int .i64 r1) := bX2.cell 1 _ rfl
  have kX2 := bX2.lt
  have cX30 : (u1.alloc (.cells #[.int .i64 m.1, .int .i64 m.2.1] 23)).cell? ⟨n + 3, 0, none⟩ = some (.int .i64 s0) := bX3.cell 0 _ rfl
  have cX31 : (u1.alloc (.cells #[.int .i64 m.1, .int .i64 m.2.1] 23)).cell? ⟨n + 3, 1, none⟩ = some (.int .i64 s1) := bX3.cell 1 _ rfl
  have kX3 := bX3.lt
  go_wp2_with fail
  go_at_call 51
  refine (h2 _).mono ?_
  rintro r u2 ⟨rfl, hb⟩
  replace bX0 := bX0.keep hb
  replace bX1 := bX1.keep hb
  replace bX2 := bX2.keep hb
  replace bX3 := bX3.keep hb
  replace bZ := bZ.keep hb
  replace bM := bM.keep hb
  replace hB := hB.trans (hb.mono (by have := hB.size; omega))
  clear hb cX20 cX21 kX2 cX30 cX31 kX3
  generalize u1.heap.size = gM at *
  clear hsz
  have lX0 := bX0.lt
  have lX1 := bX1.lt
  have lX2 := bX2.lt
  have lX3 := bX3.lt
  have lZ := bZ.lt
  have lM := bM.lt
  have hsz : n ≤ u2.heap.size := by have := hB.size; omega
  try clear oZ oB
  have oZ := bZ
  have oB := hB
  have bK := Bn.new u2 #[.int .i64 k.1, .int .i64 k.2.1] 23
  replace bX0 := bX0.alloc (.cells #[.int .i64 k.1, .int .i64 k.2.1] 23)
  replace bX1 := bX1.alloc (.cells #[.int .i64 k.1, .int .i64 k.2.1] 23)
  replace bX2 := bX2.alloc (.cells #[.int .i64 k.1, .int .i64 k.2.1] 23)
  replace bX3 := bX3.alloc (.cells #[.int .i64 k.1, .int .i64 k.2.1] 23)
  replace bZ := bZ.alloc (.cells #[.int .i64 k.1, .int .i64 k.2.1] 23)
  replace bM := bM.alloc (.cells #[.int .i64 k.1, .int .i64 k.2.1] 23)
  replace hB := hB.alloc hsz (.cells #[.int .i64 k.1, .int .i64 k.2.1] 23)
  go_wp2_with fail
  go_at_call 71
  refine (rFirst2_b _ 0 0 _ ?_ ?_).mono ?_
  · simp [go_sem]
  · simp [go_sem]
  rintro r u3 ⟨rfl, hb⟩
  rw [show fo 0 0 = 0 from rfl]
  replace bX0 := (bX0.alloc (.cells #[.int .i64 0, .int .i64 0] 37)).keep hb
  replace bX1 := (bX1.alloc (.cells #[.int .i64 0, .int .i64 0] 37)).keep hb
  replace bX2 := (bX2.alloc (.cells #[.int .i64 0, .int .i64 0] 37)).keep hb
  replace bX3 := (bX3.alloc (.cells #[.int .i64 0, .int .i64 0] 37)).keep hb
  replace bZ := (bZ.alloc (.cells #[.int .i64 0, .int .i64 0] 37)).keep hb
  replace bM := (bM.alloc (.cells #[.int .i64 0, .int .i64 0] 37)).keep hb
  replace bK := (bK.alloc (.cells #[.int .i64 0, .int .i64 0] 37)).keep hb
  replace hB := (hB.alloc (by have := hB.size; omega) (.cells #[.int .i64 0, .int .i64 0] 37)).trans (hb.mono (by have := hB.size; simp; omega))
  clear hb
  generalize u2.heap.size = gK at *
  clear hsz
  have cM0 : u3.cell? ⟨gM, 0, none⟩ = some (.int .i64 m.1) := bM.cell 0 _ rfl
  have cM1 : u3.cell? ⟨gM, 1, none⟩ = some (.int .i64 m.2.1) := bM.cell 1 _ rfl
  have kM := bM.lt
  have cK0 : u3.cell? ⟨gK, 0, none⟩ = some (.int .i64 k.1) := bK.cell 0 _ rfl
  have cK1 : u3.cell? ⟨gK, 1, none⟩ = some (.int .i64 k.2.1) := bK.cell 1 _ rfl
  have kK := bK.lt
  go_wp2_with fail
  go_at_call 43
  refine (h3 _).mono ?_
  rintro r u4 ⟨rfl, hb⟩
  replace bX0 := bX0.keep hb
  replace bX1 := bX1.keep hb
  replace bX2 := bX2.keep hb
  replace bX3 := bX3.keep hb
  replace bZ := bZ.keep hb
  replace bM := bM.keep hb
  replace bK := bK.keep hb
  replace hB := hB.trans (hb.mono (by have := hB.size; omega))
  clear hb cM0 cM1 kM cK0 cK1 kK
  have cZ0 : u4.cell? ⟨n + 4, 0, none⟩ = some (.int .i64 0) := bZ.cell 0 _ rfl
  have cZ1 : u4.cell? ⟨n + 4, 1, none⟩ = some (.int .i64 0) := bZ.cell 1 _ rfl
  have kZ := bZ.lt
  have zZ0 : u4.frozen? ⟨n + 4, 0, none⟩ = false := bZ.f 0
  have zZ1 : u4.frozen? ⟨n + 4, 1, none⟩ = false := bZ.f 1
  go_wp2
  refine bodyPost_ret (v := .tuple #[.agg #[.int .i64 t.1, .int .i64 t.2.1], .int .i64 t.2.2]) (by simp [results, Tryz.results56, go_sem, cZ0, zZ0, cZ1, zZ1, kZ]) rfl ⟨rfl, ?_⟩
  subst hn
  exact below2 hB (show w.heap.size ≤ w.heap.size + 4 by omega) _ _
set_option maxRecDepth 100000 in
set_option maxHeartbeats 4000000 in
theorem rLess_no (p0 p1 q0 q1 r0 r1 s0 s1 : Int) (h : fo (sMulR p0 p1 q0 q1).2.2 (sMulR r0 r1 s0 s1).2.2 ≠ 0) (w : World) :
    Calls Tryz.prog 56 #[.agg #[.int .i64 p0, .int .i64 p1], .agg #[.int .i64 q0, .int .i64 q1], .agg #[.int .i64 r0, .int .i64 r1], .agg #[.int .i64 s0, .int .i64 s1]] w fun r w' => r = .returned (.tuple #[.agg #[.int .i64 0, .int .i64 0], .int .i64 (fo (sMulR p0 p1 q0 q1).2.2 (sMulR r0 r1 s0 s1).2.2)]) ∧ Below w.heap.size w w' := by
  have h1 := fun w => rMul_any p0 p1 q0 q1 w
  have h2 := fun w => rMul_any r0 r1 s0 s1 w
  generalize sMulR p0 p1 q0 q1 = m at *
  generalize sMulR r0 r1 s0 s1 = k at *
  have bX0 := Bn.new w #[.int .i64 p0, .int .i64 p1] 23
  replace bX0 := bX0.alloc (.cells #[.int .i64 q0, .int .i64 q1] 23)
  replace bX0 := bX0.alloc (.cells #[.int .i64 r0, .int .i64 r1] 23)
  replace bX0 := bX0.alloc (.cells #[.int .i64 s0, .int .i64 s1] 23)
  replace bX0 := bX0.alloc (.cells #[.int .i64 0, .int .i64 0] 23)
  have bX1 := Bn.new (w.alloc (.cells #[.int .i64 p0, .int .i64 p1] 23)) #[.int .i64 q0, .int .i64 q1] 23
  rw [show (w.alloc (.cells #[.int .i64 p0, .int .i64 p1] 23)).heap.size = w.heap.size + 1 by simp] at bX1
  replace bX1 := bX1.alloc (.cells #[.int .i64 r0, .int .i64 r1] 23)
  replace bX1 := bX1.alloc (.cells #[.int .i64 s0, .int .i64 s1] 23)
  replace bX1 := bX1.alloc (.cells #[.int .i64 0, .int .i64 0] 23)
  have bX2 := Bn.new ((w.alloc (.cells #[.int .i64 p0, .int .i64 p1] 23)).alloc (.cells #[.int .i64 q0, .int .i64 q1] 23)) #[.int .i64 r0, .int .i64 r1] 23
  rw [show ((w.alloc (.cells #[.int .i64 p0, .int .i64 p1] 23)).alloc (.cells #[.int .i64 q0, .int .i64 q1] 23)).heap.size = w.heap.size + 2 by simp] at bX2
  replace bX2 := bX2.alloc (.cells #[.int .i64 s0, .int .i64 s1] 23)
  replace bX2 := bX2.alloc (.cells #[.int .i64 0, .int .i64 0] 23)
  have bX3 := Bn.new (((w.alloc (.cells #[.int .i64 p0, .int .i64 p1] 23)).alloc (.cells #[.int .i64 q0, .int .i64 q1] 23)).alloc (.cells #[.int .i64 r0, .int .i64 r1] 23)) #[.int .i64 s0, .int .i64 s1] 23
  rw [show (((w.alloc (.cells #[.int .i64 p0, .int .i64 p1] 23)).alloc (.cells #[.int .i64 q0, .int .i64 q1] 23)).alloc (.cells #[.int .i64 r0, .int .i64 r1] 23)).heap.size = w.heap.size + 3 by simp] at bX3
  replace bX3 := bX3.alloc (.cells #[.int .i64 0, .int .i64 0] 23)
  have bZ := Bn.new ((((w.alloc (.cells #[.int .i64 p0, .int .i64 p1] 23)).alloc (.cells #[.int .i64 q0, .int .i64 q1] 23)).alloc (.cells #[.int .i64 r0, .int .i64 r1] 23)).alloc (.cells #[.int .i64 s0, .int .i64 s1] 23)) #[.int .i64 0, .int .i64 0] 23
  rw [show ((((w.alloc (.cells #[.int .i64 p0, .int .i64 p1] 23)).alloc (.cells #[.int .i64 q0, .int .i64 q1] 23)).alloc (.cells #[.int .i64 r0, .int .i64 r1] 23)).alloc (.cells #[.int .i64 s0, .int .i64 s1] 23)).heap.size = w.heap.size + 4 by simp] at bZ
  have hB : Below w.heap.size w (((((w.alloc (.cells #[.int .i64 p0, .int .i64 p1] 23)).alloc (.cells #[.int .i64 q0, .int .i64 q1] 23)).alloc (.cells #[.int .i64 r0, .int .i64 r1] 23)).alloc (.cells #[.int .i64 s0, .int .i64 s1] 23)).alloc (.cells #[.int .i64 0, .int .i64 0] 23)) := by (repeat (first | with_reducible exact Below.refl _ _ | with_reducible assumption | refine Below.alloc ?_ (by (try simp); try omega) _ | refine Below.setCell ?_ (by (try simp); try omega) _ | refine below_drewN ?_ _ | refine Below.drew ?_ | (with_reducible refine Below.trans ?_ (Below.mono (by assumption) (by (try simp); try omega)))))
  generalize hv : (((((w.alloc (.cells #[.int .i64 p0, .int .i64 p1] 23)).alloc (.cells #[.int .i64 q0, .int .i64 q1] 23)).alloc (.cells #[.int .i64 r0, .int .i64 r1] 23)).alloc (.cells #[.int .i64 s0, .int .i64 s1] 23)).alloc (.cells #[.int .i64 0, .int .i64 0] 23)) = v0 at *
  generalize hn : w.heap.size = n at *
  have cX00 : v0.cell? ⟨n, 0, none⟩ = some (.int .i64 p0) := bX0.cell 0 _ rfl
  have cX01 : v0.cell? ⟨n, 1, none⟩ = some (.int .i64 p1) := bX0.cell 1 _ rfl
  have kX0 := bX0.lt
  have cX10 : v0.cell? ⟨n + 1, 0, none⟩ = some (.int .i64 q0) := bX1.cell 0 _ rfl
  have cX11 : v0.cell? ⟨n + 1, 1, none⟩ = some (.int .i64 q1) := bX1.cell 1 _ rfl
  have kX1 := bX1.lt
  subst hv
  subst hn
  go_enter Tryz.func56, Tryz.ntmps56
  go_wp2_with fail
  go_at_call 51
  refine (h1 _).mono ?_
  rintro r u1 ⟨rfl, hb⟩
  replace bX0 := bX0.keep hb
  replace bX1 := bX1.keep hb
  replace bX2 := bX2.keep hb
  replace bX3 := bX3.keep hb
  replace bZ := bZ.keep hb
  replace hB := hB.trans (hb.mono hB.size)
  clear hb cX00 cX01 kX0 cX10 cX11 kX1
  generalize hn : w.heap.size = n at *
  have lX0 := bX0.lt
  have lX1 := bX1.lt
  have lX2 := bX2.lt
  have lX3 := bX3.lt
  have lZ := bZ.lt
  have hsz : n ≤ u1.heap.size := by have := hB.size; omega
  try clear oZ oB
  have oZ := bZ
  have oB := hB
  have bM := Bn.new u1 #[.int .i64 m.1, .int .i64 m.2.1] 23
  replace bX0 := bX0.alloc (.cells #[.int .i64 m.1, .int .i64 m.2.1] 23)
  replace bX1 := bX1.alloc (.cells #[.int .i64 m.1, .int .i64 m.2.1] 23)
  replace bX2 := bX2.alloc (.cells #[.int .i64 m.1, .int .i64 m.2.1] 23)
  replace bX3 := bX3.alloc (.cells #[.int .i64 m.1, .int .i64 m.2.1] 23)
  replace bZ := bZ.alloc (.cells #[.int .i64 m.1, .int .i64 m.2.1] 23)
  replace hB := hB.alloc hsz (.cells #[.int .i64 m.1, .int .i64 m.2.1] 23)
  have cX20 : (u1.alloc (.cells #[.int .i64 m.1, .int .i64 m.2.1] 23)).cell? ⟨n + 2, 0, none⟩ = some (.int .i64 r0) := bX2.cell 0 _ rfl
  have cX21 : (u1.alloc (.cells #[.int .i64 m.1, .int .i64 m.2.1] 23)).cell? ⟨n + 2, 1, none⟩ = some (.int .i64 r1) := bX2.cell 1 _ rfl
  have kX2 := bX2.lt
  have cX30 : (u1.alloc (.cells #[.int .i64 m.1, .int .i64 m.2.1] 23)).cell? ⟨n + 3, 0, none⟩ = some (.int .i64 s0) := bX3.cell 0 _ rfl
  have cX31 : (u1.alloc (.cells #[.int .i64 m.1, .int .i64 m.2.1] 23)).cell? ⟨n + 3, 1, none⟩ = some (.int .i64 s1) := bX3.cell 1 _ rfl
  have kX3 := bX3.lt
  go_wp2_with fail
  go_at_call 51
  refine (h2 _).mono ?_
  rintro r u2 ⟨rfl, hb⟩
  replace bX0 := bX0.keep hb
  replace bX1 := bX1.keep hb
  replace bX2 := bX2.keep hb
  replace bX3 := bX3.keep hb
  replace bZ := bZ.keep hb
  replace bM := bM.keep hb
  replace hB := hB.trans (hb.mono (by have := hB.size; omega))
  clear hb cX20 cX21 kX2 cX30 cX31 kX3
  generalize u1.heap.size = gM at *
  clear hsz
  have lX0 := bX0.lt
  have lX1 := bX1.lt
  have lX2 := bX2.lt
  have lX3 := bX3.lt
  have lZ := bZ.lt
  have lM := bM.lt
  have hsz : n ≤ u2.heap.size := by have := hB.size; omega
  try clear oZ oB
  have oZ := bZ
  have oB := hB
  have bK := Bn.new u2 #[.int .i64 k.1, .int .i64 k.2.1] 23
  replace bX0 := bX0.alloc (.cells #[.int .i64 k.1, .int .i64 k.2.1] 23)
  replace bX1 := bX1.alloc (.cells #[.int .i64 k.1, .int .i64 k.2.1] 23)
  replace bX2 := bX2.alloc (.cells #[.int .i64 k.1, .int .i64 k.2.1] 23)
  replace bX3 := bX3.alloc (.cells #[.int .i64 k.1, .int .i64 k.2.1] 23)
  replace bZ := bZ.alloc (.cells #[.int .i64 k.1, .int .i64 k.2.1] 23)
  replace bM := bM.alloc (.cells #[.int .i64 k.1, .int .i64 k.2.1] 23)
  replace hB := hB.alloc hsz (.cells #[.int .i64 k.1, .int .i64 k.2.1] 23)
  go_wp2_with fail
  go_at_call 71
  refine (rFirst2_b _ m.2.2 k.2.2 _ ?_ ?_).mono ?_
  · simp [go_sem]
  · simp [go_sem]
  rintro r u3 ⟨rfl, hb⟩
  replace bX0 := (bX0.alloc (.cells #[.int .i64 m.2.2, .int .i64 k.2.2] 37)).keep hb
  replace bX1 := (bX1.alloc (.cells #[.int .i64 m.2.2, .int .i64 k.2.2] 37)).keep hb
  replace bX2 := (bX2.alloc (.cells #[.int .i64 m.2.2, .int .i64 k.2.2] 37)).keep hb
  replace bX3 := (bX3.alloc (.cells #[.int .i64 m.2.2, .int .i64 k.2.2] 37)).keep hb
  replace bZ := (bZ.alloc (.cells #[.int .i64 m.2.2, .int .i64 k.2.2] 37)).keep hb
  replace bM := (bM.alloc (.cells #[.int .i64 m.2.2, .int .i64 k.2.2] 37)).keep hb
  replace bK := (bK.alloc (.cells #[.int .i64 m.2.2, .int .i64 k.2.2] 37)).keep hb
  replace hB := (hB.alloc (by have := hB.size; omega) (.cells #[.int .i64 m.2.2, .int .i64 k.2.2] 37)).trans (hb.mono (by have := hB.size; simp; omega))
  clear hb
  generalize u2.heap.size = gK at *
  clear hsz
  have y : (fo m.2.2 k.2.2 == 0) = false := beq_eq_false_iff_ne.2 h
  have cZ0 : u3.cell? ⟨n + 4, 0, none⟩ = some (.int .i64 0) := bZ.cell 0 _ rfl
  have cZ1 : u3.cell? ⟨n + 4, 1, none⟩ = some (.int .i64 0) := bZ.cell 1 _ rfl
  have kZ := bZ.lt
  have zZ0 : u3.frozen? ⟨n + 4, 0, none⟩ = false := bZ.f 0
  have zZ1 : u3.frozen? ⟨n + 4, 1, none⟩ = false := bZ.f 1
  go_wp2
  refine bodyPost_ret (v := .tuple #[.agg #[.int .i64 0, .int .i64 0], .int .i64 (fo m.2.2 k.2.2)]) (by simp [results, Tryz.results56, go_sem, cZ0, zZ0, cZ1, zZ1, kZ]) rfl ⟨rfl, ?_⟩
  subst hn
  exact below2 hB (show w.heap.size ≤ w.heap.size + 4 by omega) _ _
theorem rLess_any (p0 p1 q0 q1 r0 r1 s0 s1 : Int) (w : World) :
    Calls Tryz.prog 56 #[.agg #[.int .i64 p0, .int .i64 p1], .agg #[.int .i64 q0, .int .i64 q1], .agg #[.int .i64 r0, .int .i64 r1], .agg #[.int .i64 s0, .int .i64 s1]] w fun r w' => r = .returned (.tuple #[.agg #[.int .i64 (sTold (vCompR p0 p1 q0 q1 r0 r1 s0 s1).2.2 (vCompR p0 p1 q0 q1 r0 r1 s0 s1).1 (vCompR p0 p1 q0 q1 r0 r1 s0 s1).2.1).1, .int .i64 (sTold (vCompR p0 p1 q0 q1 r0 r1 s0 s1).2.2 (vCompR p0 p1 q0 q1 r0 r1 s0 s1).1 (vCompR p0 p1 q0 q1 r0 r1 s0 s1).2.1).2.1], .int .i64 (sTold (vCompR p0 p1 q0 q1 r0 r1 s0 s1).2.2 (vCompR p0 p1 q0 q1 r0 r1 s0 s1).1 (vCompR p0 p1 q0 q1 r0 r1 s0 s1).2.1).2.2]) ∧ Below w.heap.size w w' := by
  by_cases h : fo (sMulR p0 p1 q0 q1).2.2 (sMulR r0 r1 s0 s1).2.2 = 0
  · obtain ⟨e1, e2⟩ := fo2_zero h
    have t := rLess_ok p0 p1 q0 q1 r0 r1 s0 s1 e1 e2 w
    have q : sTold (vCompR p0 p1 q0 q1 r0 r1 s0 s1).2.2 (vCompR p0 p1 q0 q1 r0 r1 s0 s1).1 (vCompR p0 p1 q0 q1 r0 r1 s0 s1).2.1 = vCompM p0 p1 q0 q1 r0 r1 s0 s1 := by
      unfold vCompR
      simp only []
      rw [e1, e2, fo_zero, fo_zero]
      unfold sTold
      by_cases c : (vCompM p0 p1 q0 q1 r0 r1 s0 s1).2.2 = 0
      · rw [if_pos c, ← c]
      · rw [if_neg c]
        have z := sub_zero (a := (sMulR p0 p1 q0 q1).1) (b := (sMulR p0 p1 q0 q1).2.1) (c := (sMulR r0 r1 s0 s1).1) (d := (sMulR r0 r1 s0 s1).2.1) c
        exact Prod.ext z.1.symm (Prod.ext z.2.symm rfl)
    rw [q]; exact t
  · have t := rLess_no p0 p1 q0 q1 r0 r1 s0 s1 h w
    have q : sTold (vCompR p0 p1 q0 q1 r0 r1 s0 s1).2.2 (vCompR p0 p1 q0 q1 r0 r1 s0 s1).1 (vCompR p0 p1 q0 q1 r0 r1 s0 s1).2.1 = (0, 0, fo (sMulR p0 p1 q0 q1).2.2 (sMulR r0 r1 s0 s1).2.2) := by
      unfold vCompR
      simp only []
      rw [← fo_assoc, fo_ne h]
      unfold sTold
      rw [if_neg h]
    rw [q]; exact t
set_option maxRecDepth 100000 in
set_option maxHeartbeats 4000000 in
theorem rThree_no (x0 x1 y0 y1 z0 z1 e f g : Int) (h : fo e (fo f g) ≠ 0) (w : World) :
    Calls Tryz.prog 54 #[.agg #[.int .i64 x0, .int .i64 x1], .int .i64 e, .agg #[.int .i64 y0, .int .i64 y1], .int .i64 f, .agg #[.int .i64 z0, .int .i64 z1], .int .i64 g] w fun r w' => r = .returned (.tuple #[.agg #[.int .i64 0, .int .i64 0], .int .i64 (fo e (fo f g))]) ∧ Below w.heap.size w w' := by
  have bX0 := Bn.new w #[.int .i64 x0, .int .i64 x1] 23
  replace bX0 := bX0.alloc (.cells #[.int .i64 y0, .int .i64 y1] 23)
  replace bX0 := bX0.alloc (.cells #[.int .i64 z0, .int .i64 z1] 23)
  replace bX0 := bX0.alloc (.cells #[.int .i64 0, .int .i64 0] 23)
  have bX2 := Bn.new (w.alloc (.cells #[.int .i64 x0, .int .i64 x1] 23)) #[.int .i64 y0, .int .i64 y1] 23
  rw [show (w.alloc (.cells #[.int .i64 x0, .int .i64 x1] 23)).heap.size = w.heap.size + 1 by simp] at bX2
  replace bX2 := bX2.alloc (.cells #[.int .i64 z0, .int .i64 z1] 23)
  replace bX2 := bX2.alloc (.cells #[.int .i64 0, .int .i64 0] 23)
  have bX4 := Bn.new ((w.alloc (.cells #[.int .i64 x0, .int .i64 x1] 23)).alloc (.cells #[.int .i64 y0, .int .i64 y1] 23)) #[.int .i64 z0, .int .i64 z1] 23
  rw [show ((w.alloc (.cells #[.int .i64 x0, .int .i64 x1] 23)).alloc (.cells #[.int .i64 y0, .int .i64 y1] 23)).heap.size = w.heap.size + 2 by simp] at bX4
  replace bX4 := bX4.alloc (.cells #[.int .i64 0, .int .i64 0] 23)
  have bZ := Bn.new (((w.alloc (.cells #[.int .i64 x0, .int .i64 x1] 23)).alloc (.cells #[.int .i64 y0, .int .i64 y1] 23)).alloc (.cells #[.int .i64 z0, .int .i64 z1] 23)) #[.int .i64 0, .int .i64 0] 23
  rw [show (((w.alloc (.cells #[.int .i64 x0, .int .i64 x1] 23)).alloc (.cells #[.int .i64 y0, .int .i64 y1] 23)).alloc (.cells #[.int .i64 z0, .int .i64 z1] 23)).heap.size = w.heap.size + 3 by simp] at bZ
  have hB : Below w.heap.size w ((((w.alloc (.cells #[.int .i64 x0, .int .i64 x1] 23)).alloc (.cells #[.int .i64 y0, .int .i64 y1] 23)).alloc (.cells #[.int .i64 z0, .int .i64 z1] 23)).alloc (.cells #[.int .i64 0, .int .i64 0] 23)) := by (repeat (first | with_reducible exact Below.refl _ _ | with_reducible assumption | refine Below.alloc ?_ (by (try simp); try omega) _ | refine Below.setCell ?_ (by (try simp); try omega) _ | refine below_drewN ?_ _ | refine Below.drew ?_ | (with_reducible refine Below.trans ?_ (Below.mono (by assumption) (by (try simp); try omega)))))
  generalize hv : ((((w.alloc (.cells #[.int .i64 x0, .int .i64 x1] 23)).alloc (.cells #[.int .i64 y0, .int .i64 y1] 23)).alloc (.cells #[.int .i64 z0, .int .i64 z1] 23)).alloc (.cells #[.int .i64 0, .int .i64 0] 23)) = v0 at *
  generalize hn : w.heap.size = n at *
  subst hv
  subst hn
  go_enter Tryz.func54, Tryz.ntmps54
  go_wp2_with fail
  go_at_call 71
  refine (rFirst3_b _ e f g _ ?_ ?_ ?_).mono ?_
  · simp [go_sem]
  · simp [go_sem]
  · simp [go_sem]
  rintro r u1 ⟨rfl, hb⟩
  replace bX0 := (bX0.alloc (.cells #[.int .i64 e, .int .i64 f, .int .i64 g] 37)).keep hb
  replace bX2 := (bX2.alloc (.cells #[.int .i64 e, .int .i64 f, .int .i64 g] 37)).keep hb
  replace bX4 := (bX4.alloc (.cells #[.int .i64 e, .int .i64 f, .int .i64 g] 37)).keep hb
  replace bZ := (bZ.alloc (.cells #[.int .i64 e, .int .i64 f, .int .i64 g] 37)).keep hb
  replace hB := (hB.alloc (by have := hB.size; omega) (.cells #[.int .i64 e, .int .i64 f, .int .i64 g] 37)).trans (hb.mono (by have := hB.size; simp; omega))
  clear hb
  generalize hn : w.heap.size = n at *
  have y : (fo e (fo f g) == 0) = false := beq_eq_false_iff_ne.2 h
  have cZ0 : u1.cell? ⟨n + 3, 0, none⟩ = some (.int .i64 0) := bZ.cell 0 _ rfl
  have cZ1 : u1.cell? ⟨n + 3, 1, none⟩ = some (.int .i64 0) := bZ.cell 1 _ rfl
  have kZ := bZ.lt
  have zZ0 : u1.frozen? ⟨n + 3, 0, none⟩ = false := bZ.f 0
  have zZ1 : u1.frozen? ⟨n + 3, 1, none⟩ = false := bZ.f 1
  go_wp2
  refine bodyPost_ret (v := .tuple #[.agg #[.int .i64 0, .int .i64 0], .int .i64 (fo e (fo f g))]) (by simp [results, Tryz.results54, go_sem, cZ0, zZ0, cZ1, zZ1, kZ]) rfl ⟨rfl, ?_⟩
  subst hn
  exact below2 hB (show w.heap.size ≤ w.heap.size + 3 by omega) _ _
set_option maxRecDepth 100000 in
set_option maxHeartbeats 4000000 in
theorem rThree_no1 (x0 x1 y0 y1 z0 z1 : Int) (h : (sAddR x0 x1 y0 y1).2.2 ≠ 0) (w : World) :
    Calls Tryz.prog 54 #[.agg #[.int .i64 x0, .int .i64 x1], .int .i64 0, .agg #[.int .i64 y0, .int .i64 y1], .int .i64 0, .agg #[.int .i64 z0, .int .i64 z1], .int .i64 0] w fun r w' => r = .returned (.tuple #[.agg #[.int .i64 0, .int .i64 0], .int .i64 (sAddR x0 x1 y0 y1).2.2]) ∧ Below w.heap.size w w' := by
  have h1 := fun w => rAdd_any x0 x1 y0 y1 w
  generalize sAddR x0 x1 y0 y1 = m at *
  have bX0 := Bn.new w #[.int .i64 x0, .int .i64 x1] 23
  replace bX0 := bX0.alloc (.cells #[.int .i64 y0, .int .i64 y1] 23)
  replace bX0 := bX0.alloc (.cells #[.int .i64 z0, .int .i64 z1] 23)
  replace bX0 := bX0.alloc (.cells #[.int .i64 0, .int .i64 0] 23)
  have bX2 := Bn.new (w.alloc (.cells #[.int .i64 x0, .int .i64 x1] 23)) #[.int .i64 y0, .int .i64 y1] 23
  rw [show (w.alloc (.cells #[.int .i64 x0, .int .i64 x1] 23)).heap.size = w.heap.size + 1 by simp] at bX2
  replace bX2 := bX2.alloc (.cells #[.int .i64 z0, .int .i64 z1] 23)
  replace bX2 := bX2.alloc (.cells #[.int .i64 0, .int .i64 0] 23)
  have bX4 := Bn.new ((w.alloc (.cells #[.int .i64 x0, .int .i64 x1] 23)).alloc (.cells #[.int .i64 y0, .int .i64 y1] 23)) #[.int .i64 z0, .int .i64 z1] 23
  rw [show ((w.alloc (.cells #[.int .i64 x0, .int .i64 x1] 23)).alloc (.cells #[.int .i64 y0, .int .i64 y1] 23)).heap.size = w.heap.size + 2 by simp] at bX4
  replace bX4 := bX4.alloc (.cells #[.int .i64 0, .int .i64 0] 23)
  have bZ := Bn.new (((w.alloc (.cells #[.int .i64 x0, .int .i64 x1] 23)).alloc (.cells #[.int .i64 y0, .int .i64 y1] 23)).alloc (.cells #[.int .i64 z0, .int .i64 z1] 23)) #[.int .i64 0, .int .i64 0] 23
  rw [show (((w.alloc (.cells #[.int .i64 x0, .int .i64 x1] 23)).alloc (.cells #[.int .i64 y0, .int .i64 y1] 23)).alloc (.cells #[.int .i64 z0, .int .i64 z1] 23)).heap.size = w.heap.size + 3 by simp] at bZ
  have hB : Below w.heap.size w ((((w.alloc (.cells #[.int .i64 x0, .int .i64 x1] 23)).alloc (.cells #[.int .i64 y0, .int .i64 y1] 23)).alloc (.cells #[.int .i64 z0, .int .i64 z1] 23)).alloc (.cells #[.int .i64 0, .int .i64 0] 23)) := by (repeat (first | with_reducible exact Below.refl _ _ | with_reducible assumption | refine Below.alloc ?_ (by (try simp); try omega) _ | refine Below.setCell ?_ (by (try simp); try omega) _ | refine below_drewN ?_ _ | refine Below.drew ?_ | (with_reducible refine Below.trans ?_ (Below.mono (by assumption) (by (try simp); try omega)))))
  generalize hv : ((((w.alloc (.cells #[.int .i64 x0, .int .i64 x1] 23)).alloc (.cells #[.int .i64 y0, .int .i64 y1] 23)).alloc (.cells #[.int .i64 z0, .int .i64 z1] 23)).alloc (.cells #[.int .i64 0, .int .i64 0] 23)) = v0 at *
  generalize hn : w.heap.size = n at *
  subst hv
  subst hn
  go_enter Tryz.func54, Tryz.ntmps54
  go_wp2_with fail
  go_at_call 71
  refine (rFirst3_b _ 0 0 0 _ ?_ ?_ ?_).mono ?_
  · simp [go_sem]
  · simp [go_sem]
  · simp [go_sem]
  rintro r u1 ⟨rfl, hb⟩
  rw [show fo 0 (fo 0 0) = 0 from rfl]
  replace bX0 := (bX0.alloc (.cells #[.int .i64 0, .int .i64 0, .int .i64 0] 37)).keep hb
  replace bX2 := (bX2.alloc (.cells #[.int .i64 0, .int .i64 0, .int .i64 0] 37)).keep hb
  replace bX4 := (bX4.alloc (.cells #[.int .i64 0, .int .i64 0, .int .i64 0] 37)).keep hb
  replace bZ := (bZ.alloc (.cells #[.int .i64 0, .int .i64 0, .int .i64 0] 37)).keep hb
  replace hB := (hB.alloc (by have := hB.size; omega) (.cells #[.int .i64 0, .int .i64 0, .int .i64 0] 37)).trans (hb.mono (by have := hB.size; simp; omega))
  clear hb
  generalize hn : w.heap.size = n at *
  have cX00 : u1.cell? ⟨n, 0, none⟩ = some (.int .i64 x0) := bX0.cell 0 _ rfl
  have cX01 : u1.cell? ⟨n, 1, none⟩ = some (.int .i64 x1) := bX0.cell 1 _ rfl
  have kX0 := bX0.lt
  have cX20 : u1.cell? ⟨n + 1, 0, none⟩ = some (.int .i64 y0) := bX2.cell 0 _ rfl
  have cX21 : u1.cell? ⟨n + 1, 1, none⟩ = some (.int .i64 y1) := bX2.cell 1 _ rfl
  have kX2 := bX2.lt
  go_wp2_with fail
  go_at_call 40
  refine (h1 _).mono ?_
  rintro r u2 ⟨rfl, hb⟩
  replace bX0 := bX0.keep hb
  replace bX2 := bX2.keep hb
  replace bX4 := bX4.keep hb
  replace bZ := bZ.keep hb
  replace hB := hB.trans (hb.mono (by have := hB.size; omega))
  clear hb cX00 cX01 kX0 cX20 cX21 kX2
  have lX0 := bX0.lt
  have lX2 := bX2.lt
  have lX4 := bX4.lt
  have lZ := bZ.lt
  have hsz : n ≤ u2.heap.size := by have := hB.size; omega
  try clear oZ oB
  have oZ := bZ
  have oB := hB
  have bM := Bn.new u2 #[.int .i64 m.1, .int .i64 m.2.1] 23
  replace bX0 := bX0.alloc (.cells #[.int .i64 m.1, .int .i64 m.2.1] 23)
  replace bX2 := bX2.alloc (.cells #[.int .i64 m.1, .int .i64 m.2.1] 23)
  replace bX4 := bX4.alloc (.cells #[.int .i64 m.1, .int .i64 m.2.1] 23)
  replace bZ := bZ.alloc (.cells #[.int .i64 m.1, .int .i64 m.2.1] 23)
  replace hB := hB.alloc hsz (.cells #[.int .i64 m.1, .int .i64 m.2.1] 23)
  have y : (m.2.2 == 0) = false := beq_eq_false_iff_ne.2 h
  have cZ0 : (u2.alloc (.cells #[.int .i64 m.1, .int .i64 m.2.1] 23)).cell? ⟨n + 3, 0, none⟩ = some (.int .i64 0) := bZ.cell 0 _ rfl
  have cZ1 : (u2.alloc (.cells #[.int .i64 m.1, .int .i64 m.2.1] 23)).cell? ⟨n + 3, 1, none⟩ = some (.int .i64 0) := bZ.cell 1 _ rfl
  have kZ := bZ.lt
  have zZ0 : (u2.alloc (.cells #[.int .i64 m.1, .int .i64 m.2.1] 23)).frozen? ⟨n + 3, 0, none⟩ = false := bZ.f 0
  have zZ1 : (u2.alloc (.cells #[.int .i64 m.1, .int .i64 m.2.1] 23)).frozen? ⟨n + 3, 1, none⟩ = false := bZ.f 1
  have oc0 : u2.cell? ⟨n + 3, 0, none⟩ = some (.int .i64 0) := oZ.cell 0 _ rfl
  have oc1 : u2.cell? ⟨n + 3, 1, none⟩ = some (.int .i64 0) := oZ.cell 1 _ rfl
  have oz0 : u2.frozen? ⟨n + 3, 0, none⟩ = false := oZ.f 0
  have oz1 : u2.frozen? ⟨n + 3, 1, none⟩ = false := oZ.f 1
  have oZl := oZ.lt
  go_wp2
  refine bodyPost_ret (v := .tuple #[.agg #[.int .i64 0, .int .i64 0], .int .i64 m.2.2]) (by simp [results, Tryz.results54, go_sem, cZ0, zZ0, cZ1, zZ1, kZ, oZl, oc0, oz0, oc1, oz1]) rfl ⟨rfl, ?_⟩
  subst hn
  exact (below2 oB (show w.heap.size ≤ w.heap.size + 3 by omega) _ _).alloc (by simp; exact hsz) _
set_option maxRecDepth 100000 in
set_option maxHeartbeats 4000000 in
theorem rThree_ok (x0 x1 y0 y1 z0 z1 : Int) (h : (sAddR x0 x1 y0 y1).2.2 = 0) (w : World) :
    Calls Tryz.prog 54 #[.agg #[.int .i64 x0, .int .i64 x1], .int .i64 0, .agg #[.int .i64 y0, .int .i64 y1], .int .i64 0, .agg #[.int .i64 z0, .int .i64 z1], .int .i64 0] w fun r w' => r = .returned (.tuple #[.agg #[.int .i64 (sAddR (sAddR x0 x1 y0 y1).1 (sAddR x0 x1 y0 y1).2.1 z0 z1).1, .int .i64 (sAddR (sAddR x0 x1 y0 y1).1 (sAddR x0 x1 y0 y1).2.1 z0 z1).2.1], .int .i64 (sAddR (sAddR x0 x1 y0 y1).1 (sAddR x0 x1 y0 y1).2.1 z0 z1).2.2]) ∧ Below w.heap.size w w' := by
  have h1 := fun w => rAdd_any x0 x1 y0 y1 w
  rw [h] at h1
  generalize sAddR x0 x1 y0 y1 = m at *
  have h2 := fun w => rAdd_any m.1 m.2.1 z0 z1 w
  generalize sAddR m.1 m.2.1 z0 z1 = t at *
  clear h
  have bX0 := Bn.new w #[.int .i64 x0, .int .i64 x1] 23
  replace bX0 := bX0.alloc (.cells #[.int .i64 y0, .int .i64 y1] 23)
  replace bX0 := bX0.alloc (.cells #[.int .i64 z0, .int .i64 z1] 23)
  replace bX0 := bX0.alloc (.cells #[.int .i64 0, .int .i64 0] 23)
  have bX2 := Bn.new (w.alloc (.cells #[.int .i64 x0, .int .i64 x1] 23)) #[.int .i64 y0, .int .i64 y1] 23
  rw [show (w.alloc (.cells #[.int .i64 x0, .int .i64 x1] 23)).heap.size = w.heap.size + 1 by simp] at bX2
  replace bX2 := bX2.alloc (.cells #[.int .i64 z0, .int .i64 z1] 23)
  replace bX2 := bX2.alloc (.cells #[.int .i64 0, .int .i64 0] 23)
  have bX4 := Bn.new ((w.alloc (.cells #[.int .i64 x0, .int .i64 x1] 23)).alloc (.cells #[.int .i64 y0, .int .i64 y1] 23)) #[.int .i64 z0, .int .i64 z1] 23
  rw [show ((w.alloc (.cells #[.int .i64 x0, .int .i64 x1] 23)).alloc (.cells #[.int .i64 y0, .int .i64 y1] 23)).heap.size = w.heap.size + 2 by simp] at bX4
  replace bX4 := bX4.alloc (.cells #[.int .i64 0, .int .i64 0] 23)
  have bZ := Bn.new (((w.alloc (.cells #[.int .i64 x0, .int .i64 x1] 23)).alloc (.cells #[.int .i64 y0, .int .i64 y1] 23)).alloc (.cells #[.int .i64 z0, .int .i64 z1] 23)) #[.int .i64 0, .int .i64 0] 23
  rw [show (((w.alloc (.cells #[.int .i64 x0, .int .i64 x1] 23)).alloc (.cells #[.int .i64 y0, .int .i64 y1] 23)).alloc (.cells #[.int .i64 z0, .int .i64 z1] 23)).heap.size = w.heap.size + 3 by simp] at bZ
  have hB : Below w.heap.size w ((((w.alloc (.cells #[.int .i64 x0, .int .i64 x1] 23)).alloc (.cells #[.int .i64 y0, .int .i64 y1] 23)).alloc (.cells #[.int .i64 z0, .int .i64 z1] 23)).alloc (.cells #[.int .i64 0, .int .i64 0] 23)) := by (repeat (first | with_reducible exact Below.refl _ _ | with_reducible assumption | refine Below.alloc ?_ (by (try simp); try omega) _ | refine Below.setCell ?_ (by (try simp); try omega) _ | refine below_drewN ?_ _ | refine Below.drew ?_ | (with_reducible refine Below.trans ?_ (Below.mono (by assumption) (by (try simp); try omega)))))
  generalize hv : ((((w.alloc (.cells #[.int .i64 x0, .int .i64 x1] 23)).alloc (.cells #[.int .i64 y0, .int .i64 y1] 23)).alloc (.cells #[.int .i64 z0, .int .i64 z1] 23)).alloc (.cells #[.int .i64 0, .int .i64 0] 23)) = v0 at *
  generalize hn : w.heap.size = n at *
  subst hv
  subst hn
  go_enter Tryz.func54, Tryz.ntmps54
  go_wp2_with fail
  go_at_call 71
  refine (rFirst3_b _ 0 0 0 _ ?_ ?_ ?_).mono ?_
  · simp [go_sem]
  · simp [go_sem]
  · simp [go_sem]
  rintro r u1 ⟨rfl, hb⟩
  rw [show fo 0 (fo 0 0) = 0 from rfl]
  replace bX0 := (bX0.alloc (.cells #[.int .i64 0, .int .i64 0, .int .i64 0] 37)).keep hb
  replace bX2 := (bX2.alloc (.cells #[.int .i64 0, .int .i64 0, .int .i64 0] 37)).keep hb
  replace bX4 := (bX4.alloc (.cells #[.int .i64 0, .int .i64 0, .int .i64 0] 37)).keep hb
  replace bZ := (bZ.alloc (.cells #[.int .i64 0, .int .i64 0, .int .i64 0] 37)).keep hb
  replace hB := (hB.alloc (by have := hB.size; omega) (.cells #[.int .i64 0, .int .i64 0, .int .i64 0] 37)).trans (hb.mono (by have := hB.size; simp; omega))
  clear hb
  generalize hn : w.heap.size = n at *
  have cX00 : u1.cell? ⟨n, 0, none⟩ = some (.int .i64 x0) := bX0.cell 0 _ rfl
  have cX01 : u1.cell? ⟨n, 1, none⟩ = some (.int .i64 x1) := bX0.cell 1 _ rfl
  have kX0 := bX0.lt
  have cX20 : u1.cell? ⟨n + 1, 0, none⟩ = some (.int .i64 y0) := bX2.cell 0 _ rfl
  have cX21 : u1.cell? ⟨n + 1, 1, none⟩ = some (.int .i64 y1) := bX2.cell 1 _ rfl
  have kX2 := bX2.lt
  go_wp2_with fail
  go_at_call 40
  refine (h1 _).mono ?_
  rintro r u2 ⟨rfl, hb⟩
  replace bX0 := bX0.keep hb
  replace bX2 := bX2.keep hb
  replace bX4 := bX4.keep hb
  replace bZ := bZ.keep hb
  replace hB := hB.trans (hb.mono (by have := hB.size; omega))
  clear hb cX00 cX01 kX0 cX20 cX21 kX2
  have lX0 := bX0.lt
  have lX2 := bX2.lt
  have lX4 := bX4.lt
  have lZ := bZ.lt
  have hsz : n ≤ u2.heap.size := by have := hB.size; omega
  try clear oZ oB
  have oZ := bZ
  have oB := hB
  have bM := Bn.new u2 #[.int .i64 m.1, .int .i64 m.2.1] 23
  replace bX0 := bX0.alloc (.cells #[.int .i64 m.1, .int .i64 m.2.1] 23)
  replace bX2 := bX2.alloc (.cells #[.int .i64 m.1, .int .i64 m.2.1] 23)
  replace bX4 := bX4.alloc (.cells #[.int .i64 m.1, .int .i64 m.2.1] 23)
  replace bZ := bZ.alloc (.cells #[.int .i64 m.1, .int .i64 m.2.1] 23)
  replace hB := hB.alloc hsz (.cells #[.int .i64 m.1, .int .i64 m.2.1] 23)
  have cM0 : (u2.alloc (.cells #[.int .i64 m.1, .int .i64 m.2.1] 23)).cell? ⟨u2.heap.size, 0, none⟩ = some (.int .i64 m.1) := bM.cell 0 _ rfl
  have cM1 : (u2.alloc (.cells #[.int .i64 m.1, .int .i64 m.2.1] 23)).cell? ⟨u2.heap.size, 1, none⟩ = some (.int .i64 m.2.1) := bM.cell 1 _ rfl
  have kM := bM.lt
  have cX40 : (u2.alloc (.cells #[.int .i64 m.1, .int .i64 m.2.1] 23)).cell? ⟨n + 2, 0, none⟩ = some (.int .i64 z0) := bX4.cell 0 _ rfl
  have cX41 : (u2.alloc (.cells #[.int .i64 m.1, .int .i64 m.2.1] 23)).cell? ⟨n + 2, 1, none⟩ = some (.int .i64 z1) := bX4.cell 1 _ rfl
  have kX4 := bX4.lt
  go_wp2_with fail
  go_at_call 40
  refine (h2 _).mono ?_
  rintro r u3 ⟨rfl, hb⟩
  replace bX0 := bX0.keep hb
  replace bX2 := bX2.keep hb
  replace bX4 := bX4.keep hb
  replace bZ := bZ.keep hb
  replace bM := bM.keep hb
  replace hB := hB.trans (hb.mono (by have := hB.size; omega))
  clear hb cM0 cM1 kM cX40 cX41 kX4
  generalize u2.heap.size = gM at *
  clear hsz
  have cZ0 : u3.cell? ⟨n + 3, 0, none⟩ = some (.int .i64 0) := bZ.cell 0 _ rfl
  have cZ1 : u3.cell? ⟨n + 3, 1, none⟩ = some (.int .i64 0) := bZ.cell 1 _ rfl
  have kZ := bZ.lt
  have zZ0 : u3.frozen? ⟨n + 3, 0, none⟩ = false := bZ.f 0
  have zZ1 : u3.frozen? ⟨n + 3, 1, none⟩ = false := bZ.f 1
  go_wp2
  refine bodyPost_ret (v := .tuple #[.agg #[.int .i64 t.1, .int .i64 t.2.1], .int .i64 t.2.2]) (by simp [results, Tryz.results54, go_sem, cZ0, zZ0, cZ1, zZ1, kZ]) rfl ⟨rfl, ?_⟩
  subst hn
  exact below2 hB (show w.heap.size ≤ w.heap.size + 3 by omega) _ _
theorem rThree_any (x0 x1 y0 y1 z0 z1 e f g : Int) (w : World) :
    Calls Tryz.prog 54 #[.agg #[.int .i64 x0, .int .i64 x1], .int .i64 e, .agg #[.int .i64 y0, .int .i64 y1], .int .i64 f, .agg #[.int .i64 z0, .int .i64 z1], .int .i64 g] w fun r w' => r = .returned (.tuple #[.agg #[.int .i64 (sTold (fo (fo e (fo f g)) (vSumR x0 x1 y0 y1 z0 z1).2.2) (vSumR x0 x1 y0 y1 z0 z1).1 (vSumR x0 x1 y0 y1 z0 z1).2.1).1, .int .i64 (sTold (fo (fo e (fo f g)) (vSumR x0 x1 y0 y1 z0 z1).2.2) (vSumR x0 x1 y0 y1 z0 z1).1 (vSumR x0 x1 y0 y1 z0 z1).2.1).2.1], .int .i64 (sTold (fo (fo e (fo f g)) (vSumR x0 x1 y0 y1 z0 z1).2.2) (vSumR x0 x1 y0 y1 z0 z1).1 (vSumR x0 x1 y0 y1 z0 z1).2.1).2.2]) ∧ Below w.heap.size w w' := by
  by_cases h : fo e (fo f g) = 0
  · obtain ⟨rfl, rfl, rfl⟩ := fo3_zero h
    rw [h, fo_zero]
    unfold vSumR
    simp only []
    by_cases c : (sAddR x0 x1 y0 y1).2.2 = 0
    · have t := rThree_ok x0 x1 y0 y1 z0 z1 c w
      rw [c, fo_zero]
      have q : sTold (sAddR (sAddR x0 x1 y0 y1).1 (sAddR x0 x1 y0 y1).2.1 z0 z1).2.2 (sAddR (sAddR x0 x1 y0 y1).1 (sAddR x0 x1 y0 y1).2.1 z0 z1).1 (sAddR (sAddR x0 x1 y0 y1).1 (sAddR x0 x1 y0 y1).2.1 z0 z1).2.1 = (sAddR (sAddR x0 x1 y0 y1).1 (sAddR x0 x1 y0 y1).2.1 z0 z1) := by
        unfold sTold
        by_cases d : (sAddR (sAddR x0 x1 y0 y1).1 (sAddR x0 x1 y0 y1).2.1 z0 z1).2.2 = 0
        · rw [if_pos d]; exact Prod.ext rfl (Prod.ext rfl d.symm)
        · rw [if_neg d]
          have z := add_zero d
          exact Prod.ext z.1.symm (Prod.ext z.2.symm rfl)
      rw [q]; exact t
    · have t := rThree_no1 x0 x1 y0 y1 z0 z1 c w
      rw [fo_ne c]
      unfold sTold
      rw [if_neg c]
      exact t
  · have t := rThree_no x0 x1 y0 y1 z0 z1 e f g h w
    rw [fo_ne h]
    unfold sTold
    rw [if_neg h]
    exact t
end Go.Proofs.YtnfapdmbkpkkdaaGreat
