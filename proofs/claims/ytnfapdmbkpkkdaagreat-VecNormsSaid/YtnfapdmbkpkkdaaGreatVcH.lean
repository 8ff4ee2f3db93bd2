/-
  Drafts of vectors.
-/
import Derived.Test.YtnfapdmbkpkkdaaGreatVcG
import Derived.Test.YtnfapdmbkpkkdaaGreatSpS
namespace Go.Proofs.YtnfapdmbkpkkdaaGreat
open Go.RowKit

set_option maxRecDepth 100000 in
set_option maxHeartbeats 4000000 in
theorem dVec_any (p0 q0 r0 p1 q1 r1 p2 q2 r2 : Int) (q00 : 0 ≤ q0) (q01 : q0 ≤ 255) (r00 : 0 ≤ r0) (r01 : r0 ≤ 4294967295) (q10 : 0 ≤ q1) (q11 : q1 ≤ 255) (r10 : 0 ≤ r1) (r11 : r1 ≤ 4294967295) (q20 : 0 ≤ q2) (q21 : q2 ≤ 255) (r20 : 0 ≤ r2) (r21 : r2 ≤ 4294967295) :
    ∃ x0 x1 x2 x3 x4 x5 : Int, ckV x0 x1 x2 x3 x4 x5 = 0 ∧ ∀ w, Calls Tryz.prog 33 #[.agg #[.int .i64 p0, .int .u8 q0, .int .u32 r0, .int .i64 p1, .int .u8 q1, .int .u32 r1, .int .i64 p2, .int .u8 q2, .int .u32 r2]] w fun r w' => r = .returned (.agg #[.int .i64 x0, .int .i64 x1, .int .i64 x2, .int .i64 x3, .int .i64 x4, .int .i64 x5]) ∧ Below w.heap.size w w' := by
  obtain ⟨x0, x1, z0, h0⟩ := drSpan_any p0 q0 r0 q00 q01 r00 r01
  obtain ⟨x2, x3, z1, h1⟩ := drSpan_any p1 q1 r1 q10 q11 r10 r11
  obtain ⟨x4, x5, z2, h2⟩ := drSpan_any p2 q2 r2 q20 q21 r20 r21
  refine ⟨x0, x1, x2, x3, x4, x5, if_pos ⟨z0, z1, z2⟩, fun w => ?_⟩
  clear z0 z1 z2
  have b0 := (Bn.new w #[.int .i64 p0, .int .u8 q0, .int .u32 r0, .int .i64 p1, .int .u8 q1, .int .u32 r1, .int .i64 p2, .int .u8 q2, .int .u32 r2] 30).alloc (.cells #[.int .i64 0, .int .i64 0, .int .i64 0, .int .i64 0, .int .i64 0, .int .i64 0] 25)
  have b1 := Bn.new (w.alloc (.cells #[.int .i64 p0, .int .u8 q0, .int .u32 r0, .int .i64 p1, .int .u8 q1, .int .u32 r1, .int .i64 p2, .int .u8 q2, .int .u32 r2] 30)) #[.int .i64 0, .int .i64 0, .int .i64 0, .int .i64 0, .int .i64 0, .int .i64 0] 25
  rw [show (w.alloc (.cells #[.int .i64 p0, .int .u8 q0, .int .u32 r0, .int .i64 p1, .int .u8 q1, .int .u32 r1, .int .i64 p2, .int .u8 q2, .int .u32 r2] 30)).heap.size = w.heap.size + 1 by simp] at b1
  have hB : Below w.heap.size w ((w.alloc (.cells #[.int .i64 p0, .int .u8 q0, .int .u32 r0, .int .i64 p1, .int .u8 q1, .int .u32 r1, .int .i64 p2, .int .u8 q2, .int .u32 r2] 30)).alloc (.cells #[.int .i64 0, .int .i64 0, .int .i64 0, .int .i64 0, .int .i64 0, .int .i64 0] 25)) := by (repeat (first | with_reducible exact Below.refl _ _ | with_reducible assumption | refine Below.alloc ?_ (by (try simp); try omega) _ | refine Below.setCell ?_ (by (try simp); try omega) _ | refine below_drewN ?_ _ | refine Below.drew ?_ | (with_reducible refine Below.trans ?_ (Below.mono (by assumption) (by (try simp); try omega)))))
  go_enter Tryz.func33, Tryz.ntmps33
  go_wp2_with fail
  generalize ((w.alloc (.cells #[.int .i64 p0, .int .u8 q0, .int .u32 r0, .int .i64 p1, .int .u8 q1, .int .u32 r1, .int .i64 p2, .int .u8 q2, .int .u32 r2] 30)).alloc (.cells #[.int .i64 0, .int .i64 0, .int .i64 0, .int .i64 0, .int .i64 0, .int .i64 0] 25)) = v0 at *
  generalize hn : w.heap.size = n at *
  have c0 : v0.cell? ⟨n, 0, none⟩ = some (.int .i64 p0) := b0.cell 0 _ rfl
  have c1 : v0.cell? ⟨n, 1, none⟩ = some (.int .u8 q0) := b0.cell 1 _ rfl
  have c2 : v0.cell? ⟨n, 2, none⟩ = some (.int .u32 r0) := b0.cell 2 _ rfl
  have c3 : v0.cell? ⟨n, 3, none⟩ = some (.int .i64 p1) := b0.cell 3 _ rfl
  have c4 : v0.cell? ⟨n, 4, none⟩ = some (.int .u8 q1) := b0.cell 4 _ rfl
  have c5 : v0.cell? ⟨n, 5, none⟩ = some (.int .u32 r1) := b0.cell 5 _ rfl
  have c6 : v0.cell? ⟨n, 6, none⟩ = some (.int .i64 p2) := b0.cell 6 _ rfl
  have c7 : v0.cell? ⟨n, 7, none⟩ = some (.int .u8 q2) := b0.cell 7 _ rfl
  have c8 : v0.cell? ⟨n, 8, none⟩ = some (.int .u32 r2) := b0.cell 8 _ rfl
  clear b0
  go_region_held3 (fun w' => w'.cell? ⟨n, 0, none⟩ = some (.int .i64 p0) ∧ w'.cell? ⟨n, 1, none⟩ = some (.int .u8 q0) ∧ w'.cell? ⟨n, 2, none⟩ = some (.int .u32 r0) ∧ w'.cell? ⟨n, 3, none⟩ = some (.int .i64 p1) ∧ w'.cell? ⟨n, 4, none⟩ = some (.int .u8 q1) ∧ w'.cell? ⟨n, 5, none⟩ = some (.int .u32 r1) ∧ w'.cell? ⟨n, 6, none⟩ = some (.int .i64 p2) ∧ w'.cell? ⟨n, 7, none⟩ = some (.int .u8 q2) ∧ w'.cell? ⟨n, 8, none⟩ = some (.int .u32 r2))
    (first | with_reducible exact ⟨c0, c1, c2, c3, c4, c5, c6, c7, c8⟩ | with_reducible exact ⟨cellDrewI c0, cellDrewI c1, cellDrewI c2, cellDrewI c3, cellDrewI c4, cellDrewI c5, cellDrewI c6, cellDrewI c7, cellDrewI c8⟩ | with_reducible exact ⟨cellFar6 c0 (by omega) _ _ _ _ _ _, cellFar6 c1 (by omega) _ _ _ _ _ _, cellFar6 c2 (by omega) _ _ _ _ _ _, cellFar6 c3 (by omega) _ _ _ _ _ _, cellFar6 c4 (by omega) _ _ _ _ _ _, cellFar6 c5 (by omega) _ _ _ _ _ _, cellFar6 c6 (by omega) _ _ _ _ _ _, cellFar6 c7 (by omega) _ _ _ _ _ _, cellFar6 c8 (by omega) _ _ _ _ _ _⟩)
    (first | (go_at_call 66; (with_reducible refine (h0 _).mono ?_); rintro r uz ⟨rfl, hb⟩; (with_reducible (first | (replace hb := vUndrew hb) | skip)); replace c0 := bkeep hb c0; replace c1 := bkeep hb c1; replace c2 := bkeep hb c2; replace c3 := bkeep hb c3; replace c4 := bkeep hb c4; replace c5 := bkeep hb c5; replace c6 := bkeep hb c6; replace c7 := bkeep hb c7; replace c8 := bkeep hb c8; replace b1 := b1.keep hb; have z0 := b1.f 0; have z1 := b1.f 1; have z2 := b1.f 2; have z3 := b1.f 3; have z4 := b1.f 4; have z5 := b1.f 5; have y0 := b1.cell 0 _ rfl; have y1 := b1.cell 1 _ rfl; have y2 := b1.cell 2 _ rfl; have y3 := b1.cell 3 _ rfl; have y4 := b1.cell 4 _ rfl; have y5 := b1.cell 5 _ rfl; have lz := b1.lt; replace hB := hB.trans (hb.mono (by have := hB.size; omega)); clear hb) | (go_at_call 66; (with_reducible refine (h1 _).mono ?_); rintro r uz ⟨rfl, hb⟩; (with_reducible (first | (replace hb := vUndrew hb) | skip)); replace c0 := bkeep hb c0; replace c1 := bkeep hb c1; replace c2 := bkeep hb c2; replace c3 := bkeep hb c3; replace c4 := bkeep hb c4; replace c5 := bkeep hb c5; replace c6 := bkeep hb c6; replace c7 := bkeep hb c7; replace c8 := bkeep hb c8; replace b1 := b1.keep hb; have z0 := b1.f 0; have z1 := b1.f 1; have z2 := b1.f 2; have z3 := b1.f 3; have z4 := b1.f 4; have z5 := b1.f 5; have y0 := b1.cell 0 _ rfl; have y1 := b1.cell 1 _ rfl; have y2 := b1.cell 2 _ rfl; have y3 := b1.cell 3 _ rfl; have y4 := b1.cell 4 _ rfl; have y5 := b1.cell 5 _ rfl; have lz := b1.lt; replace hB := hB.trans (hb.mono (by have := hB.size; omega)); clear hb) | (go_at_call 66; (with_reducible refine (h2 _).mono ?_); rintro r uz ⟨rfl, hb⟩; (with_reducible (first | (replace hb := vUndrew hb) | skip)); replace c0 := bkeep hb c0; replace c1 := bkeep hb c1; replace c2 := bkeep hb c2; replace c3 := bkeep hb c3; replace c4 := bkeep hb c4; replace c5 := bkeep hb c5; replace c6 := bkeep hb c6; replace c7 := bkeep hb c7; replace c8 := bkeep hb c8; replace b1 := b1.keep hb; have z0 := b1.f 0; have z1 := b1.f 1; have z2 := b1.f 2; have z3 := b1.f 3; have z4 := b1.f 4; have z5 := b1.f 5; have y0 := b1.cell 0 _ rfl; have y1 := b1.cell 1 _ rfl; have y2 := b1.cell 2 _ rfl; have y3 := b1.cell 3 _ rfl; have y4 := b1.cell 4 _ rfl; have y5 := b1.cell 5 _ rfl; have lz := b1.lt; replace hB := hB.trans (hb.mono (by have := hB.size; omega)); clear hb))
  all_goals
    subst hn
    have y0 := b1.cell 0 _ rfl
    have y1 := b1.cell 1 _ rfl
    have y2 := b1.cell 2 _ rfl
    have y3 := b1.cell 3 _ rfl
    have y4 := b1.cell 4 _ rfl
    have y5 := b1.cell 5 _ rfl
    have z0 := b1.f 0
    have z1 := b1.f 1
    have z2 := b1.f 2
    have z3 := b1.f 3
    have z4 := b1.f 4
    have z5 := b1.f 5
    have lz := b1.lt
    try go_wp2
    refine bodyPost_ret (v := .agg #[.int .i64 x0, .int .i64 x1, .int .i64 x2, .int .i64 x3, .int .i64 x4, .int .i64 x5]) (by simp [results, Tryz.results33, go_sem, y0, z0, y1, z1, y2, z2, y3, z3, y4, z4, y5, z5, lz]) rfl ⟨rfl, below6 hB (by omega) _ _ _ _ _ _⟩
set_option maxRecDepth 100000 in
set_option maxHeartbeats 4000000 in
theorem dSmall_any (p0 q0 r0 p1 q1 r1 p2 q2 r2 : Int) (q00 : 0 ≤ q0) (q01 : q0 ≤ 255) (r00 : 0 ≤ r0) (r01 : r0 ≤ 4294967295) (q10 : 0 ≤ q1) (q11 : q1 ≤ 255) (r10 : 0 ≤ r1) (r11 : r1 ≤ 4294967295) (q20 : 0 ≤ q2) (q21 : q2 ≤ 255) (r20 : 0 ≤ r2) (r21 : r2 ≤ 4294967295) :
    ∃ x0 x1 x2 x3 x4 x5 : Int, ckV x0 x1 x2 x3 x4 x5 = 0 ∧ ∀ w, Calls Tryz.prog 34 #[.agg #[.int .i64 p0, .int .u8 q0, .int .u32 r0, .int .i64 p1, .int .u8 q1, .int .u32 r1, .int .i64 p2, .int .u8 q2, .int .u32 r2]] w fun r w' => r = .returned (.agg #[.int .i64 x0, .int .i64 x1, .int .i64 x2, .int .i64 x3, .int .i64 x4, .int .i64 x5]) ∧ Below w.heap.size w w' := by
  obtain ⟨x0, x1, z0, h0⟩ := drSmall_any p0 q0 r0 q00 q01 r00 r01
  obtain ⟨x2, x3, z1, h1⟩ := drSmall_any p1 q1 r1 q10 q11 r10 r11
  obtain ⟨x4, x5, z2, h2⟩ := drSmall_any p2 q2 r2 q20 q21 r20 r21
  refine ⟨x0, x1, x2, x3, x4, x5, if_pos ⟨z0, z1, z2⟩, fun w => ?_⟩
  clear z0 z1 z2
  have b0 := (Bn.new w #[.int .i64 p0, .int .u8 q0, .int .u32 r0, .int .i64 p1, .int .u8 q1, .int .u32 r1, .int .i64 p2, .int .u8 q2, .int .u32 r2] 30).alloc (.cells #[.int .i64 0, .int .i64 0, .int .i64 0, .int .i64 0, .int .i64 0, .int .i64 0] 25)
  have b1 := Bn.new (w.alloc (.cells #[.int .i64 p0, .int .u8 q0, .int .u32 r0, .int .i64 p1, .int .u8 q1, .int .u32 r1, .int .i64 p2, .int .u8 q2, .int .u32 r2] 30)) #[.int .i64 0, .int .i64 0, .int .i64 0, .int .i64 0, .int .i64 0, .int .i64 0] 25
  rw [show (w.alloc (.cells #[.int .i64 p0, .int .u8 q0, .int .u32 r0, .int .i64 p1, .int .u8 q1, .int .u32 r1, .int .i64 p2, .int .u8 q2, .int .u32 r2] 30)).heap.size = w.heap.size + 1 by simp] at b1
  have hB : Below w.heap.size w ((w.alloc (.cells #[.int .i64 p0, .int .u8 q0, .int .u32 r0, .int .i64 p1, .int .u8 q1, .int .u32 r1, .int .i64 p2, .int .u8 q2, .int .u32 r2] 30)).alloc (.cells #[.int .i64 0, .int .i64 0, .int .i64 0, .int .i64 0, .int .i64 0, .int .i64 0] 25)) := by (repeat (first | with_reducible exact Below.refl _ _ | with_reducible assumption | refine Below.alloc ?_ (by (try simp); try omega) _ | refine Below.setCell ?_ (by (try simp); try omega) _ | refine below_drewN ?_ _ | refine Below.drew ?_ | (with_reducible refine Below.trans ?_ (Below.mono (by assumption) (by (try simp); try omega)))))
  go_enter Tryz.func34, Tryz.ntmps34
  go_wp2_with fail
  generalize ((w.alloc (.cells #[.int .i64 p0, .int .u8 q0, .int .u32 r0, .int .i64 p1, .int .u8 q1, .int .u32 r1, .int .i64 p2, .int .u8 q2, .int .u32 r2] 30)).alloc (.cells #[.int .i64 0, .int .i64 0, .int .i64 0, .int .i64 0, .int .i64 0, .int .i64 0] 25)) = v0 at *
  generalize hn : w.heap.size = n at *
  have c0 : v0.cell? ⟨n, 0, none⟩ = some (.int .i64 p0) := b0.cell 0 _ rfl
  have c1 : v0.cell? ⟨n, 1, none⟩ = some (.int .u8 q0) := b0.cell 1 _ rfl
  have c2 : v0.cell? ⟨n, 2, none⟩ = some (.int .u32 r0) := b0.cell 2 _ rfl
  have c3 : v0.cell? ⟨n, 3, none⟩ = some (.int .i64 p1) := b0.cell 3 _ rfl
  have c4 : v0.cell? ⟨n, 4, none⟩ = some (.int .u8 q1) := b0.cell 4 _ rfl
  have c5 : v0.cell? ⟨n, 5, none⟩ = some (.int .u32 r1) := b0.cell 5 _ rfl
  have c6 : v0.cell? ⟨n, 6, none⟩ = some (.int .i64 p2) := b0.cell 6 _ rfl
  have c7 : v0.cell? ⟨n, 7, none⟩ = some (.int .u8 q2) := b0.cell 7 _ rfl
  have c8 : v0.cell? ⟨n, 8, none⟩ = some (.int .u32 r2) := b0.cell 8 _ rfl
  clear b0
  go_region_held3 (fun w' => w'.cell? ⟨n, 0, none⟩ = some (.int .i64 p0) ∧ w'.cell? ⟨n, 1, none⟩ = some (.int .u8 q0) ∧ w'.cell? ⟨n, 2, none⟩ = some (.int .u32 r0) ∧ w'.cell? ⟨n, 3, none⟩ = some (.int .i64 p1) ∧ w'.cell? ⟨n, 4, none⟩ = some (.int .u8 q1) ∧ w'.cell? ⟨n, 5, none⟩ = some (.int .u32 r1) ∧ w'.cell? ⟨n, 6, none⟩ = some (.int .i64 p2) ∧ w'.cell? ⟨n, 7, none⟩ = some (.int .u8 q2) ∧ w'.cell? ⟨n, 8, none⟩ = some (.int .u32 r2))
    (first | with_reducible exact ⟨c0, c1, c2, c3, c4, c5, c6, c7, c8⟩ | with_reducible exact ⟨cellDrewI c0, cellDrewI c1, cellDrewI c2, cellDrewI c3, cellDrewI c4, cellDrewI c5, cellDrewI c6, cellDrewI c7, cellDrewI c8⟩ | with_reducible exact ⟨cellFar6 c0 (by omega) _ _ _ _ _ _, cellFar6 c1 (by omega) _ _ _ _ _ _, cellFar6 c2 (by omega) _ _ _ _ _ _, cellFar6 c3 (by omega) _ _ _ _ _ _, cellFar6 c4 (by omega) _ _ _ _ _ _, cellFar6 c5 (by omega) _ _ _ _ _ _, cellFar6 c6 (by omega) _ _ _ _ _ _, cellFar6 c7 (by omega) _ _ _ _ _ _, cellFar6 c8 (by omega) _ _ _ _ _ _⟩)
    (first | (go_at_call 16; (with_reducible refine (h0 _).mono ?_); rintro r uz ⟨rfl, hb⟩; (with_reducible (first | (replace hb := vUndrew hb) | skip)); replace c0 := bkeep hb c0; replace c1 := bkeep hb c1; replace c2 := bkeep hb c2; replace c3 := bkeep hb c3; replace c4 := bkeep hb c4; replace c5 := bkeep hb c5; replace c6 := bkeep hb c6; replace c7 := bkeep hb c7; replace c8 := bkeep hb c8; replace b1 := b1.keep hb; have z0 := b1.f 0; have z1 := b1.f 1; have z2 := b1.f 2; have z3 := b1.f 3; have z4 := b1.f 4; have z5 := b1.f 5; have y0 := b1.cell 0 _ rfl; have y1 := b1.cell 1 _ rfl; have y2 := b1.cell 2 _ rfl; have y3 := b1.cell 3 _ rfl; have y4 := b1.cell 4 _ rfl; have y5 := b1.cell 5 _ rfl; have lz := b1.lt; replace hB := hB.trans (hb.mono (by have := hB.size; omega)); clear hb) | (go_at_call 16; (with_reducible refine (h1 _).mono ?_); rintro r uz ⟨rfl, hb⟩; (with_reducible (first | (replace hb := vUndrew hb) | skip)); replace c0 := bkeep hb c0; replace c1 := bkeep hb c1; replace c2 := bkeep hb c2; replace c3 := bkeep hb c3; replace c4 := bkeep hb c4; replace c5 := bkeep hb c5; replace c6 := bkeep hb c6; replace c7 := bkeep hb c7; replace c8 := bkeep hb c8; replace b1 := b1.keep hb; have z0 := b1.f 0; have z1 := b1.f 1; have z2 := b1.f 2; have z3 := b1.f 3; have z4 := b1.f 4; have z5 := b1.f 5; have y0 := b1.cell 0 _ rfl; have y1 := b1.cell 1 _ rfl; have y2 := b1.cell 2 _ rfl; have y3 := b1.cell 3 _ rfl; have y4 := b1.cell 4 _ rfl; have y5 := b1.cell 5 _ rfl; have lz := b1.lt; replace hB := hB.trans (hb.mono (by have := hB.size; omega)); clear hb) | (go_at_call 16; (with_reducible refine (h2 _).mono ?_); rintro r uz ⟨rfl, hb⟩; (with_reducible (first | (replace hb := vUndrew hb) | skip)); replace c0 := bkeep hb c0; replace c1 := bkeep hb c1; replace c2 := bkeep hb c2; replace c3 := bkeep hb c3; replace c4 := bkeep hb c4; replace c5 := bkeep hb c5; replace c6 := bkeep hb c6; replace c7 := bkeep hb c7; replace c8 := bkeep hb c8; replace b1 := b1.keep hb; have z0 := b1.f 0; have z1 := b1.f 1; have z2 := b1.f 2; have z3 := b1.f 3; have z4 := b1.f 4; have z5 := b1.f 5; have y0 := b1.cell 0 _ rfl; have y1 := b1.cell 1 _ rfl; have y2 := b1.cell 2 _ rfl; have y3 := b1.cell 3 _ rfl; have y4 := b1.cell 4 _ rfl; have y5 := b1.cell 5 _ rfl; have lz := b1.lt; replace hB := hB.trans (hb.mono (by have := hB.size; omega)); clear hb))
  all_goals
    subst hn
    have y0 := b1.cell 0 _ rfl
    have y1 := b1.cell 1 _ rfl
    have y2 := b1.cell 2 _ rfl
    have y3 := b1.cell 3 _ rfl
    have y4 := b1.cell 4 _ rfl
    have y5 := b1.cell 5 _ rfl
    have z0 := b1.f 0
    have z1 := b1.f 1
    have z2 := b1.f 2
    have z3 := b1.f 3
    have z4 := b1.f 4
    have z5 := b1.f 5
    have lz := b1.lt
    try go_wp2
    refine bodyPost_ret (v := .agg #[.int .i64 x0, .int .i64 x1, .int .i64 x2, .int .i64 x3, .int .i64 x4, .int .i64 x5]) (by simp [results, Tryz.results34, go_sem, y0, z0, y1, z1, y2, z2, y3, z3, y4, z4, y5, z5, lz]) rfl ⟨rfl, below6 hB (by omega) _ _ _ _ _ _⟩
end Go.Proofs.YtnfapdmbkpkkdaaGreat
