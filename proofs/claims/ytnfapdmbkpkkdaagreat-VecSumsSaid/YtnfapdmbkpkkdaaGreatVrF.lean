/-
  VecSums: the walk.
-/
import Derived.Test.YtnfapdmbkpkkdaaGreatVcL
import Derived.Test.YtnfapdmbkpkkdaaGreatVrD
import Derived.Deep.RegionHeld3
namespace Go.Proofs.YtnfapdmbkpkkdaaGreat
open Go.RowKit

set_option maxRecDepth 100000 in
set_option maxHeartbeats 16000000 in
theorem vecSums_true (a0 a1 a2 a3 a4 a5 d0 d1 d2 d3 d4 d5 p0 q0 r0 p1 q1 r1 p2 q2 r2 p3 q3 r3 p4 q4 r4 p5 q5 r5 sa sb dx dy dz : Int) (w : World) (q00 : 0 ≤ q0) (q01 : q0 ≤ 255) (r00 : 0 ≤ r0) (r01 : r0 ≤ 4294967295) (q10 : 0 ≤ q1) (q11 : q1 ≤ 255) (r10 : 0 ≤ r1) (r11 : r1 ≤ 4294967295) (q20 : 0 ≤ q2) (q21 : q2 ≤ 255) (r20 : 0 ≤ r2) (r21 : r2 ≤ 4294967295) (q30 : 0 ≤ q3) (q31 : q3 ≤ 255) (r30 : 0 ≤ r3) (r31 : r3 ≤ 4294967295) (q40 : 0 ≤ q4) (q41 : q4 ≤ 255) (r40 : 0 ≤ r4) (r41 : r4 ≤ 4294967295) (q50 : 0 ≤ q5) (q51 : q5 ≤ 255) (r50 : 0 ≤ r5) (r51 : r5 ≤ 4294967295) (dy0 : 0 ≤ dy) (dy1 : dy ≤ 255) (dz0 : 0 ≤ dz) (dz1 : dz ≤ 4294967295) :
    Calls Tryz.prog 3 #[.agg #[.int .i64 a0, .int .i64 a1, .int .i64 a2, .int .i64 a3, .int .i64 a4, .int .i64 a5, .int .i64 d0, .int .i64 d1, .int .i64 d2, .int .i64 d3, .int .i64 d4, .int .i64 d5, .int .i64 p0, .int .u8 q0, .int .u32 r0, .int .i64 p1, .int .u8 q1, .int .u32 r1, .int .i64 p2, .int .u8 q2, .int .u32 r2, .int .i64 p3, .int .u8 q3, .int .u32 r3, .int .i64 p4, .int .u8 q4, .int .u32 r4, .int .i64 p5, .int .u8 q5, .int .u32 r5], .agg #[.int .i64 sa, .int .i64 sb], .agg #[.int .i64 dx, .int .u8 dy, .int .u32 dz]] w fun r w' => r = .returned (.bool true) ∧ Below w.heap.size w w' := by
  obtain ⟨x0, x1, x2, x3, x4, x5, y0, y1, y2, y3, y4, y5, s0, s1, s2, s3, s4, s5, hx, hy, hs, hP⟩ := vPairs_any a0 a1 a2 a3 a4 a5 d0 d1 d2 d3 d4 d5 p0 q0 r0 p1 q1 r1 p2 q2 r2 p3 q3 r3 p4 q4 r4 p5 q5 r5 q00 q01 r00 r01 q10 q11 r10 r11 q20 q21 r20 r21 q30 q31 r30 r31 q40 q41 r40 r41 q50 q51 r50 r51
  have b0_ := Bn.new w #[.int .i64 a0, .int .i64 a1, .int .i64 a2, .int .i64 a3, .int .i64 a4, .int .i64 a5, .int .i64 d0, .int .i64 d1, .int .i64 d2, .int .i64 d3, .int .i64 d4, .int .i64 d5, .int .i64 p0, .int .u8 q0, .int .u32 r0, .int .i64 p1, .int .u8 q1, .int .u32 r1, .int .i64 p2, .int .u8 q2, .int .u32 r2, .int .i64 p3, .int .u8 q3, .int .u32 r3, .int .i64 p4, .int .u8 q4, .int .u32 r4, .int .i64 p5, .int .u8 q5, .int .u32 r5] 32
  replace b0_ := b0_.alloc (.cells #[.int .i64 sa, .int .i64 sb] 23)
  replace b0_ := b0_.alloc (.cells #[.int .i64 dx, .int .u8 dy, .int .u32 dz] 28)
  have b1_ := Bn.new (w.alloc (.cells #[.int .i64 a0, .int .i64 a1, .int .i64 a2, .int .i64 a3, .int .i64 a4, .int .i64 a5, .int .i64 d0, .int .i64 d1, .int .i64 d2, .int .i64 d3, .int .i64 d4, .int .i64 d5, .int .i64 p0, .int .u8 q0, .int .u32 r0, .int .i64 p1, .int .u8 q1, .int .u32 r1, .int .i64 p2, .int .u8 q2, .int .u32 r2, .int .i64 p3, .int .u8 q3, .int .u32 r3, .int .i64 p4, .int .u8 q4, .int .u32 r4, .int .i64 p5, .int .u8 q5, .int .u32 r5] 32)) #[.int .i64 sa, .int .i64 sb] 23
  rw [show (w.alloc (.cells #[.int .i64 a0, .int .i64 a1, .int .i64 a2, .int .i64 a3, .int .i64 a4, .int .i64 a5, .int .i64 d0, .int .i64 d1, .int .i64 d2, .int .i64 d3, .int .i64 d4, .int .i64 d5, .int .i64 p0, .int .u8 q0, .int .u32 r0, .int .i64 p1, .int .u8 q1, .int .u32 r1, .int .i64 p2, .int .u8 q2, .int .u32 r2, .int .i64 p3, .int .u8 q3, .int .u32 r3, .int .i64 p4, .int .u8 q4, .int .u32 r4, .int .i64 p5, .int .u8 q5, .int .u32 r5] 32)).heap.size = w.heap.size + 1 by simp] at b1_
  replace b1_ := b1_.alloc (.cells #[.int .i64 dx, .int .u8 dy, .int .u32 dz] 28)
  have b2_ := Bn.new ((w.alloc (.cells #[.int .i64 a0, .int .i64 a1, .int .i64 a2, .int .i64 a3, .int .i64 a4, .int .i64 a5, .int .i64 d0, .int .i64 d1, .int .i64 d2, .int .i64 d3, .int .i64 d4, .int .i64 d5, .int .i64 p0, .int .u8 q0, .int .u32 r0, .int .i64 p1, .int .u8 q1, .int .u32 r1, .int .i64 p2, .int .u8 q2, .int .u32 r2, .int .i64 p3, .int .u8 q3, .int .u32 r3, .int .i64 p4, .int .u8 q4, .int .u32 r4, .int .i64 p5, .int .u8 q5, .int .u32 r5] 32)).alloc (.cells #[.int .i64 sa, .int .i64 sb] 23)) #[.int .i64 dx, .int .u8 dy, .int .u32 dz] 28
  rw [show ((w.alloc (.cells #[.int .i64 a0, .int .i64 a1, .int .i64 a2, .int .i64 a3, .int .i64 a4, .int .i64 a5, .int .i64 d0, .int .i64 d1, .int .i64 d2, .int .i64 d3, .int .i64 d4, .int .i64 d5, .int .i64 p0, .int .u8 q0, .int .u32 r0, .int .i64 p1, .int .u8 q1, .int .u32 r1, .int .i64 p2, .int .u8 q2, .int .u32 r2, .int .i64 p3, .int .u8 q3, .int .u32 r3, .int .i64 p4, .int .u8 q4, .int .u32 r4, .int .i64 p5, .int .u8 q5, .int .u32 r5] 32)).alloc (.cells #[.int .i64 sa, .int .i64 sb] 23)).heap.size = w.heap.size + 2 by simp] at b2_
  have hB : Below w.heap.size w (((w.alloc (.cells #[.int .i64 a0, .int .i64 a1, .int .i64 a2, .int .i64 a3, .int .i64 a4, .int .i64 a5, .int .i64 d0, .int .i64 d1, .int .i64 d2, .int .i64 d3, .int .i64 d4, .int .i64 d5, .int .i64 p0, .int .u8 q0, .int .u32 r0, .int .i64 p1, .int .u8 q1, .int .u32 r1, .int .i64 p2, .int .u8 q2, .int .u32 r2, .int .i64 p3, .int .u8 q3, .int .u32 r3, .int .i64 p4, .int .u8 q4, .int .u32 r4, .int .i64 p5, .int .u8 q5, .int .u32 r5] 32)).alloc (.cells #[.int .i64 sa, .int .i64 sb] 23)).alloc (.cells #[.int .i64 dx, .int .u8 dy, .int .u32 dz] 28)) := by (repeat (first | with_reducible exact Below.refl _ _ | with_reducible assumption | refine Below.alloc ?_ (by (try simp); try omega) _ | refine Below.setCell ?_ (by (try simp); try omega) _ | refine below_drewN ?_ _ | refine Below.drew ?_ | (with_reducible refine Below.trans ?_ (Below.mono (by assumption) (by (try simp); try omega)))))
  go_enter Tryz.func3, Tryz.ntmps3
  go_wp2_with fail
  generalize (((w.alloc (.cells #[.int .i64 a0, .int .i64 a1, .int .i64 a2, .int .i64 a3, .int .i64 a4, .int .i64 a5, .int .i64 d0, .int .i64 d1, .int .i64 d2, .int .i64 d3, .int .i64 d4, .int .i64 d5, .int .i64 p0, .int .u8 q0, .int .u32 r0, .int .i64 p1, .int .u8 q1, .int .u32 r1, .int .i64 p2, .int .u8 q2, .int .u32 r2, .int .i64 p3, .int .u8 q3, .int .u32 r3, .int .i64 p4, .int .u8 q4, .int .u32 r4, .int .i64 p5, .int .u8 q5, .int .u32 r5] 32)).alloc (.cells #[.int .i64 sa, .int .i64 sb] 23)).alloc (.cells #[.int .i64 dx, .int .u8 dy, .int .u32 dz] 28)) = v0 at *
  generalize hn : w.heap.size = n at *
  go_at_call 6
  refine (works_true _).mono ?_
  rintro r u1 ⟨rfl, hb⟩
  replace b0_ := b0_.keep hb
  replace b1_ := b1_.keep hb
  replace b2_ := b2_.keep hb
  replace hB := hB.trans (hb.mono (by have := hB.size; omega))
  clear hb
  go_wp2_with (refine wpList_load_row rfl _ _ rfl n (by rfl) _ _ _ _ b0_ Tryz.underlying32 rfl (by kernel_rfl) ?_)
  go_at_call 7
  refine (hP _).mono ?_
  rintro r u2 ⟨g, rfl, G, hb⟩
  replace b0_ := b0_.keep hb
  replace b1_ := b1_.keep hb
  replace b2_ := b2_.keep hb
  replace hB := hB.trans (hb.mono (by have := hB.size; omega))
  clear hb hP b0_
  generalize (.agg #[.int .i64 a0, .int .i64 a1, .int .i64 a2, .int .i64 a3, .int .i64 a4, .int .i64 a5, .int .i64 d0, .int .i64 d1, .int .i64 d2, .int .i64 d3, .int .i64 d4, .int .i64 d5, .int .i64 p0, .int .u8 q0, .int .u32 r0, .int .i64 p1, .int .u8 q1, .int .u32 r1, .int .i64 p2, .int .u8 q2, .int .u32 r2, .int .i64 p3, .int .u8 q3, .int .u32 r3, .int .i64 p4, .int .u8 q4, .int .u32 r4, .int .i64 p5, .int .u8 q5, .int .u32 r5] : Value) = va at *
  have hcs : ∀ k : Int, 0 ≤ k → k < 4 → ∃ e0 e1 e2 e3 e4 e5 f0 f1 f2 f3 f4 f5 : Int, (#[.int .i64 a0, .int .i64 a1, .int .i64 a2, .int .i64 a3, .int .i64 a4, .int .i64 a5, .int .i64 d0, .int .i64 d1, .int .i64 d2, .int .i64 d3, .int .i64 d4, .int .i64 d5, .int .i64 x0, .int .i64 x1, .int .i64 x2, .int .i64 x3, .int .i64 x4, .int .i64 x5, .int .i64 y0, .int .i64 y1, .int .i64 y2, .int .i64 y3, .int .i64 y4, .int .i64 y5, .int .i64 s0, .int .i64 s1, .int .i64 s2, .int .i64 s3, .int .i64 s4, .int .i64 s5, .int .i64 y0, .int .i64 y1, .int .i64 y2, .int .i64 y3, .int .i64 y4, .int .i64 y5, .int .i64 s0, .int .i64 s1, .int .i64 s2, .int .i64 s3, .int .i64 s4, .int .i64 s5, .int .i64 d0, .int .i64 d1, .int .i64 d2, .int .i64 d3, .int .i64 d4, .int .i64 d5] : Array Value)[k.toNat * 12]? = some (.int .i64 e0) ∧ (#[.int .i64 a0, .int .i64 a1, .int .i64 a2, .int .i64 a3, .int .i64 a4, .int .i64 a5, .int .i64 d0, .int .i64 d1, .int .i64 d2, .int .i64 d3, .int .i64 d4, .int .i64 d5, .int .i64 x0, .int .i64 x1, .int .i64 x2, .int .i64 x3, .int .i64 x4, .int .i64 x5, .int .i64 y0, .int .i64 y1, .int .i64 y2, .int .i64 y3, .int .i64 y4, .int .i64 y5, .int .i64 s0, .int .i64 s1, .int .i64 s2, .int .i64 s3, .int .i64 s4, .int .i64 s5, .int .i64 y0, .int .i64 y1, .int .i64 y2, .int .i64 y3, .int .i64 y4, .int .i64 y5, .int .i64 s0, .int .i64 s1, .int .i64 s2, .int .i64 s3, .int .i64 s4, .int .i64 s5, .int .i64 d0, .int .i64 d1, .int .i64 d2, .int .i64 d3, .int .i64 d4, .int .i64 d5] : Array Value)[k.toNat * 12 + 1]? = some (.int .i64 e1) ∧ (#[.int .i64 a0, .int .i64 a1, .int .i64 a2, .int .i64 a3, .int .i64 a4, .int .i64 a5, .int .i64 d0, .int .i64 d1, .int .i64 d2, .int .i64 d3, .int .i64 d4, .int .i64 d5, .int .i64 x0, .int .i64 x1, .int .i64 x2, .int .i64 x3, .int .i64 x4, .int .i64 x5, .int .i64 y0, .int .i64 y1, .int .i64 y2, .int .i64 y3, .int .i64 y4, .int .i64 y5, .int .i64 s0, .int .i64 s1, .int .i64 s2, .int .i64 s3, .int .i64 s4, .int .i64 s5, .int .i64 y0, .int .i64 y1, .int .i64 y2, .int .i64 y3, .int .i64 y4, .int .i64 y5, .int .i64 s0, .int .i64 s1, .int .i64 s2, .int .i64 s3, .int .i64 s4, .int .i64 s5, .int .i64 d0, .int .i64 d1, .int .i64 d2, .int .i64 d3, .int .i64 d4, .int .i64 d5] : Array Value)[k.toNat * 12 + 2]? = some (.int .i64 e2) ∧ (#[.int .i64 a0, .int .i64 a1, .int .i64 a2, .int .i64 a3, .int .i64 a4, .int .i64 a5, .int .i64 d0, .int .i64 d1, .int .i64 d2, .int .i64 d3, .int .i64 d4, .int .i64 d5, .int .i64 x0, .int .i64 x1, .int .i64 x2, .int .i64 x3, .int .i64 x4, .int .i64 x5, .int .i64 y0, .int .i64 y1, .int .i64 y2, .int .i64 y3, .int .i64 y4, .int .i64 y5, .int .i64 s0, .int .i64 s1, .int .i64 s2, .int .i64 s3, .int .i64 s4, .int .i64 s5, .int .i64 y0, .int .i64 y1, .int .i64 y2, .int .i64 y3, .int .i64 y4, .int .i64 y5, .int .i64 s0, .int .i64 s1, .int .i64 s2, .int .i64 s3, .int .i64 s4, .int .i64 s5, .int .i64 d0, .int .i64 d1, .int .i64 d2, .int .i64 d3, .int .i64 d4, .int .i64 d5] : Array Value)[k.toNat * 12 + 3]? = some (.int .i64 e3) ∧ (#[.int .i64 a0, .int .i64 a1, .int .i64 a2, .int .i64 a3, .int .i64 a4, .int .i64 a5, .int .i64 d0, .int .i64 d1, .int .i64 d2, .int .i64 d3, .int .i64 d4, .int .i64 d5, .int .i64 x0, .int .i64 x1, .int .i64 x2, .int .i64 x3, .int .i64 x4, .int .i64 x5, .int .i64 y0, .int .i64 y1, .int .i64 y2, .int .i64 y3, .int .i64 y4, .int .i64 y5, .int .i64 s0, .int .i64 s1, .int .i64 s2, .int .i64 s3, .int .i64 s4, .int .i64 s5, .int .i64 y0, .int .i64 y1, .int .i64 y2, .int .i64 y3, .int .i64 y4, .int .i64 y5, .int .i64 s0, .int .i64 s1, .int .i64 s2, .int .i64 s3, .int .i64 s4, .int .i64 s5, .int .i64 d0, .int .i64 d1, .int .i64 d2, .int .i64 d3, .int .i64 d4, .int .i64 d5] : Array Value)[k.toNat * 12 + 4]? = some (.int .i64 e4) ∧ (#[.int .i64 a0, .int .i64 a1, .int .i64 a2, .int .i64 a3, .int .i64 a4, .int .i64 a5, .int .i64 d0, .int .i64 d1, .int .i64 d2, .int .i64 d3, .int .i64 d4, .int .i64 d5, .int .i64 x0, .int .i64 x1, .int .i64 x2, .int .i64 x3, .int .i64 x4, .int .i64 x5, .int .i64 y0, .int .i64 y1, .int .i64 y2, .int .i64 y3, .int .i64 y4, .int .i64 y5, .int .i64 s0, .int .i64 s1, .int .i64 s2, .int .i64 s3, .int .i64 s4, .int .i64 s5, .int .i64 y0, .int .i64 y1, .int .i64 y2, .int .i64 y3, .int .i64 y4, .int .i64 y5, .int .i64 s0, .int .i64 s1, .int .i64 s2, .int .i64 s3, .int .i64 s4, .int .i64 s5, .int .i64 d0, .int .i64 d1, .int .i64 d2, .int .i64 d3, .int .i64 d4, .int .i64 d5] : Array Value)[k.toNat * 12 + 5]? = some (.int .i64 e5) ∧ (#[.int .i64 a0, .int .i64 a1, .int .i64 a2, .int .i64 a3, .int .i64 a4, .int .i64 a5, .int .i64 d0, .int .i64 d1, .int .i64 d2, .int .i64 d3, .int .i64 d4, .int .i64 d5, .int .i64 x0, .int .i64 x1, .int .i64 x2, .int .i64 x3, .int .i64 x4, .int .i64 x5, .int .i64 y0, .int .i64 y1, .int .i64 y2, .int .i64 y3, .int .i64 y4, .int .i64 y5, .int .i64 s0, .int .i64 s1, .int .i64 s2, .int .i64 s3, .int .i64 s4, .int .i64 s5, .int .i64 y0, .int .i64 y1, .int .i64 y2, .int .i64 y3, .int .i64 y4, .int .i64 y5, .int .i64 s0, .int .i64 s1, .int .i64 s2, .int .i64 s3, .int .i64 s4, .int .i64 s5, .int .i64 d0, .int .i64 d1, .int .i64 d2, .int .i64 d3, .int .i64 d4, .int .i64 d5] : Array Value)[k.toNat * 12 + 6]? = some (.int .i64 f0) ∧ (#[.int .i64 a0, .int .i64 a1, .int .i64 a2, .int .i64 a3, .int .i64 a4, .int .i64 a5, .int .i64 d0, .int .i64 d1, .int .i64 d2, .int .i64 d3, .int .i64 d4, .int .i64 d5, .int .i64 x0, .int .i64 x1, .int .i64 x2, .int .i64 x3, .int .i64 x4, .int .i64 x5, .int .i64 y0, .int .i64 y1, .int .i64 y2, .int .i64 y3, .int .i64 y4, .int .i64 y5, .int .i64 s0, .int .i64 s1, .int .i64 s2, .int .i64 s3, .int .i64 s4, .int .i64 s5, .int .i64 y0, .int .i64 y1, .int .i64 y2, .int .i64 y3, .int .i64 y4, .int .i64 y5, .int .i64 s0, .int .i64 s1, .int .i64 s2, .int .i64 s3, .int .i64 s4, .int .i64 s5, .int .i64 d0, .int .i64 d1, .int .i64 d2, .int .i64 d3, .int .i64 d4, .int .i64 d5] : Array Value)[k.toNat * 12 + 7]? = some (.int .i64 f1) ∧ (#[.int .i64 a0, .int .i64 a1, .int .i64 a2, .int .i64 a3, .int .i64 a4, .int .i64 a5, .int .i64 d0, .int .i64 d1, .int .i64 d2, .int .i64 d3, .int .i64 d4, .int .i64 d5, .int .i64 x0, .int .i64 x1, .int .i64 x2, .int .i64 x3, .int .i64 x4, .int .i64 x5, .int .i64 y0, .int .i64 y1, .int .i64 y2, .int .i64 y3, .int .i64 y4, .int .i64 y5, .int .i64 s0, .int .i64 s1, .int .i64 s2, .int .i64 s3, .int .i64 s4, .int .i64 s5, .int .i64 y0, .int .i64 y1, .int .i64 y2, .int .i64 y3, .int .i64 y4, .int .i64 y5, .int .i64 s0, .int .i64 s1, .int .i64 s2, .int .i64 s3, .int .i64 s4, .int .i64 s5, .int .i64 d0, .int .i64 d1, .int .i64 d2, .int .i64 d3, .int .i64 d4, .int .i64 d5] : Array Value)[k.toNat * 12 + 8]? = some (.int .i64 f2) ∧ (#[.int .i64 a0, .int .i64 a1, .int .i64 a2, .int .i64 a3, .int .i64 a4, .int .i64 a5, .int .i64 d0, .int .i64 d1, .int .i64 d2, .int .i64 d3, .int .i64 d4, .int .i64 d5, .int .i64 x0, .int .i64 x1, .int .i64 x2, .int .i64 x3, .int .i64 x4, .int .i64 x5, .int .i64 y0, .int .i64 y1, .int .i64 y2, .int .i64 y3, .int .i64 y4, .int .i64 y5, .int .i64 s0, .int .i64 s1, .int .i64 s2, .int .i64 s3, .int .i64 s4, .int .i64 s5, .int .i64 y0, .int .i64 y1, .int .i64 y2, .int .i64 y3, .int .i64 y4, .int .i64 y5, .int .i64 s0, .int .i64 s1, .int .i64 s2, .int .i64 s3, .int .i64 s4, .int .i64 s5, .int .i64 d0, .int .i64 d1, .int .i64 d2, .int .i64 d3, .int .i64 d4, .int .i64 d5] : Array Value)[k.toNat * 12 + 9]? = some (.int .i64 f3) ∧ (#[.int .i64 a0, .int .i64 a1, .int .i64 a2, .int .i64 a3, .int .i64 a4, .int .i64 a5, .int .i64 d0, .int .i64 d1, .int .i64 d2, .int .i64 d3, .int .i64 d4, .int .i64 d5, .int .i64 x0, .int .i64 x1, .int .i64 x2, .int .i64 x3, .int .i64 x4, .int .i64 x5, .int .i64 y0, .int .i64 y1, .int .i64 y2, .int .i64 y3, .int .i64 y4, .int .i64 y5, .int .i64 s0, .int .i64 s1, .int .i64 s2, .int .i64 s3, .int .i64 s4, .int .i64 s5, .int .i64 y0, .int .i64 y1, .int .i64 y2, .int .i64 y3, .int .i64 y4, .int .i64 y5, .int .i64 s0, .int .i64 s1, .int .i64 s2, .int .i64 s3, .int .i64 s4, .int .i64 s5, .int .i64 d0, .int .i64 d1, .int .i64 d2, .int .i64 d3, .int .i64 d4, .int .i64 d5] : Array Value)[k.toNat * 12 + 10]? = some (.int .i64 f4) ∧ (#[.int .i64 a0, .int .i64 a1, .int .i64 a2, .int .i64 a3, .int .i64 a4, .int .i64 a5, .int .i64 d0, .int .i64 d1, .int .i64 d2, .int .i64 d3, .int .i64 d4, .int .i64 d5, .int .i64 x0, .int .i64 x1, .int .i64 x2, .int .i64 x3, .int .i64 x4, .int .i64 x5, .int .i64 y0, .int .i64 y1, .int .i64 y2, .int .i64 y3, .int .i64 y4, .int .i64 y5, .int .i64 s0, .int .i64 s1, .int .i64 s2, .int .i64 s3, .int .i64 s4, .int .i64 s5, .int .i64 y0, .int .i64 y1, .int .i64 y2, .int .i64 y3, .int .i64 y4, .int .i64 y5, .int .i64 s0, .int .i64 s1, .int .i64 s2, .int .i64 s3, .int .i64 s4, .int .i64 s5, .int .i64 d0, .int .i64 d1, .int .i64 d2, .int .i64 d3, .int .i64 d4, .int .i64 d5] : Array Value)[k.toNat * 12 + 11]? = some (.int .i64 f5) := by
    intro k h0 h1
    obtain rfl | rfl | rfl | rfl : k = 0 ∨ k = 1 ∨ k = 2 ∨ k = 3 := by omega
    · exact ⟨a0, a1, a2, a3, a4, a5, d0, d1, d2, d3, d4, d5, rfl, rfl, rfl, rfl, rfl, rfl, rfl, rfl, rfl, rfl, rfl, rfl⟩
    · exact ⟨x0, x1, x2, x3, x4, x5, y0, y1, y2, y3, y4, y5, rfl, rfl, rfl, rfl, rfl, rfl, rfl, rfl, rfl, rfl, rfl, rfl⟩
    · exact ⟨s0, s1, s2, s3, s4, s5, y0, y1, y2, y3, y4, y5, rfl, rfl, rfl, rfl, rfl, rfl, rfl, rfl, rfl, rfl, rfl, rfl⟩
    · exact ⟨s0, s1, s2, s3, s4, s5, d0, d1, d2, d3, d4, d5, rfl, rfl, rfl, rfl, rfl, rfl, rfl, rfl, rfl, rfl, rfl, rfl⟩
  generalize (#[.int .i64 a0, .int .i64 a1, .int .i64 a2, .int .i64 a3, .int .i64 a4, .int .i64 a5, .int .i64 d0, .int .i64 d1, .int .i64 d2, .int .i64 d3, .int .i64 d4, .int .i64 d5, .int .i64 x0, .int .i64 x1, .int .i64 x2, .int .i64 x3, .int .i64 x4, .int .i64 x5, .int .i64 y0, .int .i64 y1, .int .i64 y2, .int .i64 y3, .int .i64 y4, .int .i64 y5, .int .i64 s0, .int .i64 s1, .int .i64 s2, .int .i64 s3, .int .i64 s4, .int .i64 s5, .int .i64 y0, .int .i64 y1, .int .i64 y2, .int .i64 y3, .int .i64 y4, .int .i64 y5, .int .i64 s0, .int .i64 s1, .int .i64 s2, .int .i64 s3, .int .i64 s4, .int .i64 s5, .int .i64 d0, .int .i64 d1, .int .i64 d2, .int .i64 d3, .int .i64 d4, .int .i64 d5] : Array Value) = cs at *
  replace hcs := Lib.hid hcs
  clear hx hy hs q00 q01 r00 r01 q10 q11 r10 r11 q20 q21 r20 r21 q30 q31 r30 r31 q40 q41 r40 r41 q50 q51 r50 r51
  go_wp2_with fail
  have bX1 := b1_
  have bX2 := b2_
  clear b1_ b2_
  obtain ⟨ta, tb, _hk, hT⟩ := drSmall_any dx dy dz dy0 dy1 dz0 dz1
  go_loopw [32] (fun vi wr => ∃ k : Int, 0 ≤ k ∧ k ≤ 4 ∧ vi = .int .i64 k ∧ Below n w wr ∧ Bn wr g cs 36 ∧ Bn wr (n + 1) #[.int .i64 sa, .int .i64 sb] 23 ∧ Bn wr (n + 2) #[.int .i64 dx, .int .u8 dy, .int .u32 dz] 28) (fun vi _ => 4 - (intOf vi).toNat)
  case atStart => exact ⟨0, by omega, by omega, rfl, hB, G, bX1, bX2⟩
  case round =>
    clear hB G bX1 bX2
    obtain ⟨k, k0, k2, rfl, hB, G, bX1, bX2⟩ := hrel
    by_cases hk : k < 4
    · obtain ⟨e0, e1, e2, e3, e4, e5, f0, f1, f2, f3, f4, f5, d0_, d1_, d2_, d3_, d4_, d5_, d6_, d7_, d8_, d9_, d10_, d11_⟩ := hcs.out k k0 hk
      have c0 : wr.cell? ⟨g, k.toNat * 12, none⟩ = some (.int .i64 e0) := G.cell _ _ d0_
      have c1 : wr.cell? ⟨g, k.toNat * 12 + 1, none⟩ = some (.int .i64 e1) := G.cell _ _ d1_
      have c2 : wr.cell? ⟨g, k.toNat * 12 + 2, none⟩ = some (.int .i64 e2) := G.cell _ _ d2_
      have c3 : wr.cell? ⟨g, k.toNat * 12 + 3, none⟩ = some (.int .i64 e3) := G.cell _ _ d3_
      have c4 : wr.cell? ⟨g, k.toNat * 12 + 4, none⟩ = some (.int .i64 e4) := G.cell _ _ d4_
      have c5 : wr.cell? ⟨g, k.toNat * 12 + 5, none⟩ = some (.int .i64 e5) := G.cell _ _ d5_
      have c6 : wr.cell? ⟨g, k.toNat * 12 + 6, none⟩ = some (.int .i64 f0) := G.cell _ _ d6_
      have c7 : wr.cell? ⟨g, k.toNat * 12 + 7, none⟩ = some (.int .i64 f1) := G.cell _ _ d7_
      have c8 : wr.cell? ⟨g, k.toNat * 12 + 8, none⟩ = some (.int .i64 f2) := G.cell _ _ d8_
      have c9 : wr.cell? ⟨g, k.toNat * 12 + 9, none⟩ = some (.int .i64 f3) := G.cell _ _ d9_
      have c10 : wr.cell? ⟨g, k.toNat * 12 + 10, none⟩ = some (.int .i64 f4) := G.cell _ _ d10_
      have c11 : wr.cell? ⟨g, k.toNat * 12 + 11, none⟩ = some (.int .i64 f5) := G.cell _ _ d11_
      clear d0_ d1_ d2_ d3_ d4_ d5_ d6_ d7_ d8_ d9_ d10_ d11_
      have h1 := fun w => pAdd_any e0 e1 e2 e3 e4 e5 f0 f1 f2 f3 f4 f5 w
      have h2 := fun w => r6Add_any e0 e1 e2 e3 e4 e5 f0 f1 f2 f3 f4 f5 w
      have h3 := fun w => pSub_any e0 e1 e2 e3 e4 e5 f0 f1 f2 f3 f4 f5 w
      have h4 := fun w => r6Sub_any e0 e1 e2 e3 e4 e5 f0 f1 f2 f3 f4 f5 w
      have h5 := fun w => pNeg_any e0 e1 e2 e3 e4 e5 w
      have h6 := fun w => r6Neg_any e0 e1 e2 e3 e4 e5 w
      have h7 := fun w => vCheck_any e0 e1 e2 e3 e4 e5 w
      have h8 := fun w => r6Check_any e0 e1 e2 e3 e4 e5 w
      have hs1 := fun l h w => pScale_any e0 e1 e2 e3 e4 e5 l h w
      have hs2 := fun l h w => r6Scale_any e0 e1 e2 e3 e4 e5 l h w
      generalize vAddR e0 e1 e2 e3 e4 e5 f0 f1 f2 f3 f4 f5 = S at *
      generalize vSubR e0 e1 e2 e3 e4 e5 f0 f1 f2 f3 f4 f5 = T at *
      generalize vNegR e0 e1 e2 e3 e4 e5 = M at *
      generalize ckV e0 e1 e2 e3 e4 e5 = K at *
      have qS := fun w => eqV_self S.x0 S.x1 S.y0 S.y1 S.z0 S.z1 w
      have qT := fun w => eqV_self T.x0 T.x1 T.y0 T.y1 T.z0 T.z1 w
      have qM := fun w => eqV_self M.x0 M.x1 M.y0 M.y1 M.z0 M.z1 w
      have bGx := G
      clear G
      have lGx := bGx.lt
      have hsz : n ≤ wr.heap.size := by have := hB.size; omega
      have bP := Bn.new wr #[.int .i64 e0, .int .i64 e1, .int .i64 e2, .int .i64 e3, .int .i64 e4, .int .i64 e5, .int .i64 f0, .int .i64 f1, .int .i64 f2, .int .i64 f3, .int .i64 f4, .int .i64 f5] 36
      replace bGx := bGx.alloc (.cells #[.int .i64 e0, .int .i64 e1, .int .i64 e2, .int .i64 e3, .int .i64 e4, .int .i64 e5, .int .i64 f0, .int .i64 f1, .int .i64 f2, .int .i64 f3, .int .i64 f4, .int .i64 f5] 36)
      replace bX1 := bX1.alloc (.cells #[.int .i64 e0, .int .i64 e1, .int .i64 e2, .int .i64 e3, .int .i64 e4, .int .i64 e5, .int .i64 f0, .int .i64 f1, .int .i64 f2, .int .i64 f3, .int .i64 f4, .int .i64 f5] 36)
      replace bX2 := bX2.alloc (.cells #[.int .i64 e0, .int .i64 e1, .int .i64 e2, .int .i64 e3, .int .i64 e4, .int .i64 e5, .int .i64 f0, .int .i64 f1, .int .i64 f2, .int .i64 f3, .int .i64 f4, .int .i64 f5] 36)
      replace hB := hB.alloc hsz (.cells #[.int .i64 e0, .int .i64 e1, .int .i64 e2, .int .i64 e3, .int .i64 e4, .int .i64 e5, .int .i64 f0, .int .i64 f1, .int .i64 f2, .int .i64 f3, .int .i64 f4, .int .i64 f5] 36)
      have cP0 : (wr.alloc (.cells #[.int .i64 e0, .int .i64 e1, .int .i64 e2, .int .i64 e3, .int .i64 e4, .int .i64 e5, .int .i64 f0, .int .i64 f1, .int .i64 f2, .int .i64 f3, .int .i64 f4, .int .i64 f5] 36)).cell? ⟨wr.heap.size, 0, none⟩ = some (.int .i64 e0) := bP.cell 0 _ rfl
      have cP1 : (wr.alloc (.cells #[.int .i64 e0, .int .i64 e1, .int .i64 e2, .int .i64 e3, .int .i64 e4, .int .i64 e5, .int .i64 f0, .int .i64 f1, .int .i64 f2, .int .i64 f3, .int .i64 f4, .int .i64 f5] 36)).cell? ⟨wr.heap.size, 1, none⟩ = some (.int .i64 e1) := bP.cell 1 _ rfl
      have cP2 : (wr.alloc (.cells #[.int .i64 e0, .int .i64 e1, .int .i64 e2, .int .i64 e3, .int .i64 e4, .int .i64 e5, .int .i64 f0, .int .i64 f1, .int .i64 f2, .int .i64 f3, .int .i64 f4, .int .i64 f5] 36)).cell? ⟨wr.heap.size, 2, none⟩ = some (.int .i64 e2) := bP.cell 2 _ rfl
      have cP3 : (wr.alloc (.cells #[.int .i64 e0, .int .i64 e1, .int .i64 e2, .int .i64 e3, .int .i64 e4, .int .i64 e5, .int .i64 f0, .int .i64 f1, .int .i64 f2, .int .i64 f3, .int .i64 f4, .int .i64 f5] 36)).cell? ⟨wr.heap.size, 3, none⟩ = some (.int .i64 e3) := bP.cell 3 _ rfl
      have cP4 : (wr.alloc (.cells #[.int .i64 e0, .int .i64 e1, .int .i64 e2, .int .i64 e3, .int .i64 e4, .int .i64 e5, .int .i64 f0, .int .i64 f1, .int .i64 f2, .int .i64 f3, .int .i64 f4, .int .i64 f5] 36)).cell? ⟨wr.heap.size, 4, none⟩ = some (.int .i64 e4) := bP.cell 4 _ rfl
      have cP5 : (wr.alloc (.cells #[.int .i64 e0, .int .i64 e1, .int .i64 e2, .int .i64 e3, .int .i64 e4, .int .i64 e5, .int .i64 f0, .int .i64 f1, .int .i64 f2, .int .i64 f3, .int .i64 f4, .int .i64 f5] 36)).cell? ⟨wr.heap.size, 5, none⟩ = some (.int .i64 e5) := bP.cell 5 _ rfl
      have cP6 : (wr.alloc (.cells #[.int .i64 e0, .int .i64 e1, .int .i64 e2, .int .i64 e3, .int .i64 e4, .int .i64 e5, .int .i64 f0, .int .i64 f1, .int .i64 f2, .int .i64 f3, .int .i64 f4, .int .i64 f5] 36)).cell? ⟨wr.heap.size, 6, none⟩ = some (.int .i64 f0) := bP.cell 6 _ rfl
      have cP7 : (wr.alloc (.cells #[.int .i64 e0, .int .i64 e1, .int .i64 e2, .int .i64 e3, .int .i64 e4, .int .i64 e5, .int .i64 f0, .int .i64 f1, .int .i64 f2, .int .i64 f3, .int .i64 f4, .int .i64 f5] 36)).cell? ⟨wr.heap.size, 7, none⟩ = some (.int .i64 f1) := bP.cell 7 _ rfl
      have cP8 : (wr.alloc (.cells #[.int .i64 e0, .int .i64 e1, .int .i64 e2, .int .i64 e3, .int .i64 e4, .int .i64 e5, .int .i64 f0, .int .i64 f1, .int .i64 f2, .int .i64 f3, .int .i64 f4, .int .i64 f5] 36)).cell? ⟨wr.heap.size, 8, none⟩ = some (.int .i64 f2) := bP.cell 8 _ rfl
      have cP9 : (wr.alloc (.cells #[.int .i64 e0, .int .i64 e1, .int .i64 e2, .int .i64 e3, .int .i64 e4, .int .i64 e5, .int .i64 f0, .int .i64 f1, .int .i64 f2, .int .i64 f3, .int .i64 f4, .int .i64 f5] 36)).cell? ⟨wr.heap.size, 9, none⟩ = some (.int .i64 f3) := bP.cell 9 _ rfl
      have cP10 : (wr.alloc (.cells #[.int .i64 e0, .int .i64 e1, .int .i64 e2, .int .i64 e3, .int .i64 e4, .int .i64 e5, .int .i64 f0, .int .i64 f1, .int .i64 f2, .int .i64 f3, .int .i64 f4, .int .i64 f5] 36)).cell? ⟨wr.heap.size, 10, none⟩ = some (.int .i64 f4) := bP.cell 10 _ rfl
      have cP11 : (wr.alloc (.cells #[.int .i64 e0, .int .i64 e1, .int .i64 e2, .int .i64 e3, .int .i64 e4, .int .i64 e5, .int .i64 f0, .int .i64 f1, .int .i64 f2, .int .i64 f3, .int .i64 f4, .int .i64 f5] 36)).cell? ⟨wr.heap.size, 11, none⟩ = some (.int .i64 f5) := bP.cell 11 _ rfl
      have kP := bP.lt
      go_wp2_with fail
      go_at_call 8
      refine (h1 _).mono ?_
      rintro r u1 ⟨rfl, hb⟩
      clear c0 c1 c2 c3 c4 c5 c6 c7 c8 c9 c10 c11
      replace bGx := bGx.keep hb
      replace bX1 := bX1.keep hb
      replace bX2 := bX2.keep hb
      replace bP := bP.keep hb
      replace hB := hB.trans (hb.mono (by have := hB.size; omega))
      clear hb cP0 cP1 cP2 cP3 cP4 cP5 cP6 cP7 cP8 cP9 cP10 cP11 kP
      generalize wr.heap.size = gP at *
      clear hsz
      have lGx := bGx.lt
      have lX1 := bX1.lt
      have lX2 := bX2.lt
      have lP := bP.lt
      have hsz : n ≤ u1.heap.size := by have := hB.size; omega
      have bA := Bn.new u1 #[.int .i64 S.x0, .int .i64 S.x1, .int .i64 S.y0, .int .i64 S.y1, .int .i64 S.z0, .int .i64 S.z1] 25
      replace bGx := bGx.alloc (.cells #[.int .i64 S.x0, .int .i64 S.x1, .int .i64 S.y0, .int .i64 S.y1, .int .i64 S.z0, .int .i64 S.z1] 25)
      replace bX1 := bX1.alloc (.cells #[.int .i64 S.x0, .int .i64 S.x1, .int .i64 S.y0, .int .i64 S.y1, .int .i64 S.z0, .int .i64 S.z1] 25)
      replace bX2 := bX2.alloc (.cells #[.int .i64 S.x0, .int .i64 S.x1, .int .i64 S.y0, .int .i64 S.y1, .int .i64 S.z0, .int .i64 S.z1] 25)
      replace bP := bP.alloc (.cells #[.int .i64 S.x0, .int .i64 S.x1, .int .i64 S.y0, .int .i64 S.y1, .int .i64 S.z0, .int .i64 S.z1] 25)
      replace hB := hB.alloc hsz (.cells #[.int .i64 S.x0, .int .i64 S.x1, .int .i64 S.y0, .int .i64 S.y1, .int .i64 S.z0, .int .i64 S.z1] 25)
      have cP0 : (u1.alloc (.cells #[.int .i64 S.x0, .int .i64 S.x1, .int .i64 S.y0, .int .i64 S.y1, .int .i64 S.z0, .int .i64 S.z1] 25)).cell? ⟨gP, 0, none⟩ = some (.int .i64 e0) := bP.cell 0 _ rfl
      have cP1 : (u1.alloc (.cells #[.int .i64 S.x0, .int .i64 S.x1, .int .i64 S.y0, .int .i64 S.y1, .int .i64 S.z0, .int .i64 S.z1] 25)).cell? ⟨gP, 1, none⟩ = some (.int .i64 e1) := bP.cell 1 _ rfl
      have cP2 : (u1.alloc (.cells #[.int .i64 S.x0, .int .i64 S.x1, .int .i64 S.y0, .int .i64 S.y1, .int .i64 S.z0, .int .i64 S.z1] 25)).cell? ⟨gP, 2, none⟩ = some (.int .i64 e2) := bP.cell 2 _ rfl
      have cP3 : (u1.alloc (.cells #[.int .i64 S.x0, .int .i64 S.x1, .int .i64 S.y0, .int .i64 S.y1, .int .i64 S.z0, .int .i64 S.z1] 25)).cell? ⟨gP, 3, none⟩ = some (.int .i64 e3) := bP.cell 3 _ rfl
      have cP4 : (u1.alloc (.cells #[.int .i64 S.x0, .int .i64 S.x1, .int .i64 S.y0, .int .i64 S.y1, .int .i64 S.z0, .int .i64 S.z1] 25)).cell? ⟨gP, 4, none⟩ = some (.int .i64 e4) := bP.cell 4 _ rfl
      have cP5 : (u1.alloc (.cells #[.int .i64 S.x0, .int .i64 S.x1, .int .i64 S.y0, .int .i64 S.y1, .int .i64 S.z0, .int .i64 S.z1] 25)).cell? ⟨gP, 5, none⟩ = some (.int .i64 e5) := bP.cell 5 _ rfl
      have cP6 : (u1.alloc (.cells #[.int .i64 S.x0, .int .i64 S.x1, .int .i64 S.y0, .int .i64 S.y1, .int .i64 S.z0, .int .i64 S.z1] 25)).cell? ⟨gP, 6, none⟩ = some (.int .i64 f0) := bP.cell 6 _ rfl
      have cP7 : (u1.alloc (.cells #[.int .i64 S.x0, .int .i64 S.x1, .int .i64 S.y0, .int .i64 S.y1, .int .i64 S.z0, .int .i64 S.z1] 25)).cell? ⟨gP, 7, none⟩ = some (.int .i64 f1) := bP.cell 7 _ rfl
      have cP8 : (u1.alloc (.cells #[.int .i64 S.x0, .int .i64 S.x1, .int .i64 S.y0, .int .i64 S.y1, .int .i64 S.z0, .int .i64 S.z1] 25)).cell? ⟨gP, 8, none⟩ = some (.int .i64 f2) := bP.cell 8 _ rfl
      have cP9 : (u1.alloc (.cells #[.int .i64 S.x0, .int .i64 S.x1, .int .i64 S.y0, .int .i64 S.y1, .int .i64 S.z0, .int .i64 S.z1] 25)).cell? ⟨gP, 9, none⟩ = some (.int .i64 f3) := bP.cell 9 _ rfl
      have cP10 : (u1.alloc (.cells #[.int .i64 S.x0, .int .i64 S.x1, .int .i64 S.y0, .int .i64 S.y1, .int .i64 S.z0, .int .i64 S.z1] 25)).cell? ⟨gP, 10, none⟩ = some (.int .i64 f4) := bP.cell 10 _ rfl
      have cP11 : (u1.alloc (.cells #[.int .i64 S.x0, .int .i64 S.x1, .int .i64 S.y0, .int .i64 S.y1, .int .i64 S.z0, .int .i64 S.z1] 25)).cell? ⟨gP, 11, none⟩ = some (.int .i64 f5) := bP.cell 11 _ rfl
      have kP := bP.lt
      go_wp2_with fail
      go_at_call 9
      refine (h2 _).mono ?_
      rintro r u2 ⟨rfl, hb⟩
      replace bGx := bGx.keep hb
      replace bX1 := bX1.keep hb
      replace bX2 := bX2.keep hb
      replace bP := bP.keep hb
      replace bA := bA.keep hb
      replace hB := hB.trans (hb.mono (by have := hB.size; omega))
      clear hb cP0 cP1 cP2 cP3 cP4 cP5 cP6 cP7 cP8 cP9 cP10 cP11 kP
      generalize u1.heap.size = gA at *
      clear hsz
      have lGx := bGx.lt
      have lX1 := bX1.lt
      have lX2 := bX2.lt
      have lP := bP.lt
      have lA := bA.lt
      have hsz : n ≤ u2.heap.size := by have := hB.size; omega
      have bB := Bn.new u2 #[.int .i64 S.x0, .int .i64 S.x1, .int .i64 S.y0, .int .i64 S.y1, .int .i64 S.z0, .int .i64 S.z1] 25
      replace bGx := bGx.alloc (.cells #[.int .i64 S.x0, .int .i64 S.x1, .int .i64 S.y0, .int .i64 S.y1, .int .i64 S.z0, .int .i64 S.z1] 25)
      replace bX1 := bX1.alloc (.cells #[.int .i64 S.x0, .int .i64 S.x1, .int .i64 S.y0, .int .i64 S.y1, .int .i64 S.z0, .int .i64 S.z1] 25)
      replace bX2 := bX2.alloc (.cells #[.int .i64 S.x0, .int .i64 S.x1, .int .i64 S.y0, .int .i64 S.y1, .int .i64 S.z0, .int .i64 S.z1] 25)
      replace bP := bP.alloc (.cells #[.int .i64 S.x0, .int .i64 S.x1, .int .i64 S.y0, .int .i64 S.y1, .int .i64 S.z0, .int .i64 S.z1] 25)
      replace bA := bA.alloc (.cells #[.int .i64 S.x0, .int .i64 S.x1, .int .i64 S.y0, .int .i64 S.y1, .int .i64 S.z0, .int .i64 S.z1] 25)
      replace hB := hB.alloc hsz (.cells #[.int .i64 S.x0, .int .i64 S.x1, .int .i64 S.y0, .int .i64 S.y1, .int .i64 S.z0, .int .i64 S.z1] 25)
      have cP0 : (u2.alloc (.cells #[.int .i64 S.x0, .int .i64 S.x1, .int .i64 S.y0, .int .i64 S.y1, .int .i64 S.z0, .int .i64 S.z1] 25)).cell? ⟨gP, 0, none⟩ = some (.int .i64 e0) := bP.cell 0 _ rfl
      have cP1 : (u2.alloc (.cells #[.int .i64 S.x0, .int .i64 S.x1, .int .i64 S.y0, .int .i64 S.y1, .int .i64 S.z0, .int .i64 S.z1] 25)).cell? ⟨gP, 1, none⟩ = some (.int .i64 e1) := bP.cell 1 _ rfl
      have cP2 : (u2.alloc (.cells #[.int .i64 S.x0, .int .i64 S.x1, .int .i64 S.y0, .int .i64 S.y1, .int .i64 S.z0, .int .i64 S.z1] 25)).cell? ⟨gP, 2, none⟩ = some (.int .i64 e2) := bP.cell 2 _ rfl
      have cP3 : (u2.alloc (.cells #[.int .i64 S.x0, .int .i64 S.x1, .int .i64 S.y0, .int .i64 S.y1, .int .i64 S.z0, .int .i64 S.z1] 25)).cell? ⟨gP, 3, none⟩ = some (.int .i64 e3) := bP.cell 3 _ rfl
      have cP4 : (u2.alloc (.cells #[.int .i64 S.x0, .int .i64 S.x1, .int .i64 S.y0, .int .i64 S.y1, .int .i64 S.z0, .int .i64 S.z1] 25)).cell? ⟨gP, 4, none⟩ = some (.int .i64 e4) := bP.cell 4 _ rfl
      have cP5 : (u2.alloc (.cells #[.int .i64 S.x0, .int .i64 S.x1, .int .i64 S.y0, .int .i64 S.y1, .int .i64 S.z0, .int .i64 S.z1] 25)).cell? ⟨gP, 5, none⟩ = some (.int .i64 e5) := bP.cell 5 _ rfl
      have cP6 : (u2.alloc (.cells #[.int .i64 S.x0, .int .i64 S.x1, .int .i64 S.y0, .int .i64 S.y1, .int .i64 S.z0, .int .i64 S.z1] 25)).cell? ⟨gP, 6, none⟩ = some (.int .i64 f0) := bP.cell 6 _ rfl
      have cP7 : (u2.alloc (.cells #[.int .i64 S.x0, .int .i64 S.x1, .int .i64 S.y0, .int .i64 S.y1, .int .i64 S.z0, .int .i64 S.z1] 25)).cell? ⟨gP, 7, none⟩ = some (.int .i64 f1) := bP.cell 7 _ rfl
      have cP8 : (u2.alloc (.cells #[.int .i64 S.x0, .int .i64 S.x1, .int .i64 S.y0, .int .i64 S.y1, .int .i64 S.z0, .int .i64 S.z1] 25)).cell? ⟨gP, 8, none⟩ = some (.int .i64 f2) := bP.cell 8 _ rfl
      have cP9 : (u2.alloc (.cells #[.int .i64 S.x0, .int .i64 S.x1, .int .i64 S.y0, .int .i64 S.y1, .int .i64 S.z0, .int .i64 S.z1] 25)).cell? ⟨gP, 9, none⟩ = some (.int .i64 f3) := bP.cell 9 _ rfl
      have cP10 : (u2.alloc (.cells #[.int .i64 S.x0, .int .i64 S.x1, .int .i64 S.y0, .int .i64 S.y1, .int .i64 S.z0, .int .i64 S.z1] 25)).cell? ⟨gP, 10, none⟩ = some (.int .i64 f4) := bP.cell 10 _ rfl
      have cP11 : (u2.alloc (.cells #[.int .i64 S.x0, .int .i64 S.x1, .int .i64 S.y0, .int .i64 S.y1, .int .i64 S.z0, .int .i64 S.z1] 25)).cell? ⟨gP, 11, none⟩ = some (.int .i64 f5) := bP.cell 11 _ rfl
      have kP := bP.lt
      go_wp2_with fail
      go_at_call 10
      refine (h3 _).mono ?_
      rintro r u3 ⟨rfl, hb⟩
      replace bGx := bGx.keep hb
      replace bX1 := bX1.keep hb
      replace bX2 := bX2.keep hb
      replace bP := bP.keep hb
      replace bA := bA.keep hb
      replace bB := bB.keep hb
      replace hB := hB.trans (hb.mono (by have := hB.size; omega))
      clear hb cP0 cP1 cP2 cP3 cP4 cP5 cP6 cP7 cP8 cP9 cP10 cP11 kP
      generalize u2.heap.size = gB at *
      clear hsz
      have lGx := bGx.lt
      have lX1 := bX1.lt
      have lX2 := bX2.lt
      have lP := bP.lt
      have lA := bA.lt
      have lB := bB.lt
      have hsz : n ≤ u3.heap.size := by have := hB.size; omega
      have bC := Bn.new u3 #[.int .i64 T.x0, .int .i64 T.x1, .int .i64 T.y0, .int .i64 T.y1, .int .i64 T.z0, .int .i64 T.z1] 25
      replace bGx := bGx.alloc (.cells #[.int .i64 T.x0, .int .i64 T.x1, .int .i64 T.y0, .int .i64 T.y1, .int .i64 T.z0, .int .i64 T.z1] 25)
      replace bX1 := bX1.alloc (.cells #[.int .i64 T.x0, .int .i64 T.x1, .int .i64 T.y0, .int .i64 T.y1, .int .i64 T.z0, .int .i64 T.z1] 25)
      replace bX2 := bX2.alloc (.cells #[.int .i64 T.x0, .int .i64 T.x1, .int .i64 T.y0, .int .i64 T.y1, .int .i64 T.z0, .int .i64 T.z1] 25)
      replace bP := bP.alloc (.cells #[.int .i64 T.x0, .int .i64 T.x1, .int .i64 T.y0, .int .i64 T.y1, .int .i64 T.z0, .int .i64 T.z1] 25)
      replace bA := bA.alloc (.cells #[.int .i64 T.x0, .int .i64 T.x1, .int .i64 T.y0, .int .i64 T.y1, .int .i64 T.z0, .int .i64 T.z1] 25)
      replace bB := bB.alloc (.cells #[.int .i64 T.x0, .int .i64 T.x1, .int .i64 T.y0, .int .i64 T.y1, .int .i64 T.z0, .int .i64 T.z1] 25)
      replace hB := hB.alloc hsz (.cells #[.int .i64 T.x0, .int .i64 T.x1, .int .i64 T.y0, .int .i64 T.y1, .int .i64 T.z0, .int .i64 T.z1] 25)
      have cP0 : (u3.alloc (.cells #[.int .i64 T.x0, .int .i64 T.x1, .int .i64 T.y0, .int .i64 T.y1, .int .i64 T.z0, .int .i64 T.z1] 25)).cell? ⟨gP, 0, none⟩ = some (.int .i64 e0) := bP.cell 0 _ rfl
      have cP1 : (u3.alloc (.cells #[.int .i64 T.x0, .int .i64 T.x1, .int .i64 T.y0, .int .i64 T.y1, .int .i64 T.z0, .int .i64 T.z1] 25)).cell? ⟨gP, 1, none⟩ = some (.int .i64 e1) := bP.cell 1 _ rfl
      have cP2 : (u3.alloc (.cells #[.int .i64 T.x0, .int .i64 T.x1, .int .i64 T.y0, .int .i64 T.y1, .int .i64 T.z0, .int .i64 T.z1] 25)).cell? ⟨gP, 2, none⟩ = some (.int .i64 e2) := bP.cell 2 _ rfl
      have cP3 : (u3.alloc (.cells #[.int .i64 T.x0, .int .i64 T.x1, .int .i64 T.y0, .int .i64 T.y1, .int .i64 T.z0, .int .i64 T.z1] 25)).cell? ⟨gP, 3, none⟩ = some (.int .i64 e3) := bP.cell 3 _ rfl
      have cP4 : (u3.alloc (.cells #[.int .i64 T.x0, .int .i64 T.x1, .int .i64 T.y0, .int .i64 T.y1, .int .i64 T.z0, .int .i64 T.z1] 25)).cell? ⟨gP, 4, none⟩ = some (.int .i64 e4) := bP.cell 4 _ rfl
      have cP5 : (u3.alloc (.cells #[.int .i64 T.x0, .int .i64 T.x1, .int .i64 T.y0, .int .i64 T.y1, .int .i64 T.z0, .int .i64 T.z1] 25)).cell? ⟨gP, 5, none⟩ = some (.int .i64 e5) := bP.cell 5 _ rfl
      have cP6 : (u3.alloc (.cells #[.int .i64 T.x0, .int .i64 T.x1, .int .i64 T.y0, .int .i64 T.y1, .int .i64 T.z0, .int .i64 T.z1] 25)).cell? ⟨gP, 6, none⟩ = some (.int .i64 f0) := bP.cell 6 _ rfl
      have cP7 : (u3.alloc (.cells #[.int .i64 T.x0, .int .i64 T.x1, .int .i64 T.y0, .int .i64 T.y1, .int .i64 T.z0, .int .i64 T.z1] 25)).cell? ⟨gP, 7, none⟩ = some (.int .i64 f1) := bP.cell 7 _ rfl
      have cP8 : (u3.alloc (.cells #[.int .i64 T.x0, .int .i64 T.x1, .int .i64 T.y0, .int .i64 T.y1, .int .i64 T.z0, .int .i64 T.z1] 25)).cell? ⟨gP, 8, none⟩ = some (.int .i64 f2) := bP.cell 8 _ rfl
      have cP9 : (u3.alloc (.cells #[.int .i64 T.x0, .int .i64 T.x1, .int .i64 T.y0, .int .i64 T.y1, .int .i64 T.z0, .int .i64 T.z1] 25)).cell? ⟨gP, 9, none⟩ = some (.int .i64 f3) := bP.cell 9 _ rfl
      have cP10 : (u3.alloc (.cells #[.int .i64 T.x0, .int .i64 T.x1, .int .i64 T.y0, .int .i64 T.y1, .int .i64 T.z0, .int .i64 T.z1] 25)).cell? ⟨gP, 10, none⟩ = some (.int .i64 f4) := bP.cell 10 _ rfl
      have cP11 : (u3.alloc (.cells #[.int .i64 T.x0, .int .i64 T.x1, .int .i64 T.y0, .int .i64 T.y1, .int .i64 T.z0, .int .i64 T.z1] 25)).cell? ⟨gP, 11, none⟩ = some (.int .i64 f5) := bP.cell 11 _ rfl
      have kP := bP.lt
      go_wp2_with fail
      go_at_call 11
      refine (h4 _).mono ?_
      rintro r u4 ⟨rfl, hb⟩
      replace bGx := bGx.keep hb
      replace bX1 := bX1.keep hb
      replace bX2 := bX2.keep hb
      replace bP := bP.keep hb
      replace bA := bA.keep hb
      replace bB := bB.keep hb
      replace bC := bC.keep hb
      replace hB := hB.trans (hb.mono (by have := hB.size; omega))
      clear hb cP0 cP1 cP2 cP3 cP4 cP5 cP6 cP7 cP8 cP9 cP10 cP11 kP
      generalize u3.heap.size = gC at *
      clear hsz
      have lGx := bGx.lt
      have lX1 := bX1.lt
      have lX2 := bX2.lt
      have lP := bP.lt
      have lA := bA.lt
      have lB := bB.lt
      have lC := bC.lt
      have hsz : n ≤ u4.heap.size := by have := hB.size; omega
      have bD := Bn.new u4 #[.int .i64 T.x0, .int .i64 T.x1, .int .i64 T.y0, .int .i64 T.y1, .int .i64 T.z0, .int .i64 T.z1] 25
      replace bGx := bGx.alloc (.cells #[.int .i64 T.x0, .int .i64 T.x1, .int .i64 T.y0, .int .i64 T.y1, .int .i64 T.z0, .int .i64 T.z1] 25)
      replace bX1 := bX1.alloc (.cells #[.int .i64 T.x0, .int .i64 T.x1, .int .i64 T.y0, .int .i64 T.y1, .int .i64 T.z0, .int .i64 T.z1] 25)
      replace bX2 := bX2.alloc (.cells #[.int .i64 T.x0, .int .i64 T.x1, .int .i64 T.y0, .int .i64 T.y1, .int .i64 T.z0, .int .i64 T.z1] 25)
      replace bP := bP.alloc (.cells #[.int .i64 T.x0, .int .i64 T.x1, .int .i64 T.y0, .int .i64 T.y1, .int .i64 T.z0, .int .i64 T.z1] 25)
      replace bA := bA.alloc (.cells #[.int .i64 T.x0, .int .i64 T.x1, .int .i64 T.y0, .int .i64 T.y1, .int .i64 T.z0, .int .i64 T.z1] 25)
      replace bB := bB.alloc (.cells #[.int .i64 T.x0, .int .i64 T.x1, .int .i64 T.y0, .int .i64 T.y1, .int .i64 T.z0, .int .i64 T.z1] 25)
      replace bC := bC.alloc (.cells #[.int .i64 T.x0, .int .i64 T.x1, .int .i64 T.y0, .int .i64 T.y1, .int .i64 T.z0, .int .i64 T.z1] 25)
      replace hB := hB.alloc hsz (.cells #[.int .i64 T.x0, .int .i64 T.x1, .int .i64 T.y0, .int .i64 T.y1, .int .i64 T.z0, .int .i64 T.z1] 25)
      have cP0 : (u4.alloc (.cells #[.int .i64 T.x0, .int .i64 T.x1, .int .i64 T.y0, .int .i64 T.y1, .int .i64 T.z0, .int .i64 T.z1] 25)).cell? ⟨gP, 0, none⟩ = some (.int .i64 e0) := bP.cell 0 _ rfl
      have cP1 : (u4.alloc (.cells #[.int .i64 T.x0, .int .i64 T.x1, .int .i64 T.y0, .int .i64 T.y1, .int .i64 T.z0, .int .i64 T.z1] 25)).cell? ⟨gP, 1, none⟩ = some (.int .i64 e1) := bP.cell 1 _ rfl
      have cP2 : (u4.alloc (.cells #[.int .i64 T.x0, .int .i64 T.x1, .int .i64 T.y0, .int .i64 T.y1, .int .i64 T.z0, .int .i64 T.z1] 25)).cell? ⟨gP, 2, none⟩ = some (.int .i64 e2) := bP.cell 2 _ rfl
      have cP3 : (u4.alloc (.cells #[.int .i64 T.x0, .int .i64 T.x1, .int .i64 T.y0, .int .i64 T.y1, .int .i64 T.z0, .int .i64 T.z1] 25)).cell? ⟨gP, 3, none⟩ = some (.int .i64 e3) := bP.cell 3 _ rfl
      have cP4 : (u4.alloc (.cells #[.int .i64 T.x0, .int .i64 T.x1, .int .i64 T.y0, .int .i64 T.y1, .int .i64 T.z0, .int .i64 T.z1] 25)).cell? ⟨gP, 4, none⟩ = some (.int .i64 e4) := bP.cell 4 _ rfl
      have cP5 : (u4.alloc (.cells #[.int .i64 T.x0, .int .i64 T.x1, .int .i64 T.y0, .int .i64 T.y1, .int .i64 T.z0, .int .i64 T.z1] 25)).cell? ⟨gP, 5, none⟩ = some (.int .i64 e5) := bP.cell 5 _ rfl
      have cP6 : (u4.alloc (.cells #[.int .i64 T.x0, .int .i64 T.x1, .int .i64 T.y0, .int .i64 T.y1, .int .i64 T.z0, .int .i64 T.z1] 25)).cell? ⟨gP, 6, none⟩ = some (.int .i64 f0) := bP.cell 6 _ rfl
      have cP7 : (u4.alloc (.cells #[.int .i64 T.x0, .int .i64 T.x1, .int .i64 T.y0, .int .i64 T.y1, .int .i64 T.z0, .int .i64 T.z1] 25)).cell? ⟨gP, 7, none⟩ = some (.int .i64 f1) := bP.cell 7 _ rfl
      have cP8 : (u4.alloc (.cells #[.int .i64 T.x0, .int .i64 T.x1, .int .i64 T.y0, .int .i64 T.y1, .int .i64 T.z0, .int .i64 T.z1] 25)).cell? ⟨gP, 8, none⟩ = some (.int .i64 f2) := bP.cell 8 _ rfl
      have cP9 : (u4.alloc (.cells #[.int .i64 T.x0, .int .i64 T.x1, .int .i64 T.y0, .int .i64 T.y1, .int .i64 T.z0, .int .i64 T.z1] 25)).cell? ⟨gP, 9, none⟩ = some (.int .i64 f3) := bP.cell 9 _ rfl
      have cP10 : (u4.alloc (.cells #[.int .i64 T.x0, .int .i64 T.x1, .int .i64 T.y0, .int .i64 T.y1, .int .i64 T.z0, .int .i64 T.z1] 25)).cell? ⟨gP, 10, none⟩ = some (.int .i64 f4) := bP.cell 10 _ rfl
      have cP11 : (u4.alloc (.cells #[.int .i64 T.x0, .int .i64 T.x1, .int .i64 T.y0, .int .i64 T.y1, .int .i64 T.z0, .int .i64 T.z1] 25)).cell? ⟨gP, 11, none⟩ = some (.int .i64 f5) := bP.cell 11 _ rfl
      have kP := bP.lt
      go_wp2_with fail
      go_at_call 12
      refine (h5 _).mono ?_
      rintro r u5 ⟨rfl, hb⟩
      replace bGx := bGx.keep hb
      replace bX1 := bX1.keep hb
      replace bX2 := bX2.keep hb
      replace bP := bP.keep hb
      replace bA := bA.keep hb
      replace bB := bB.keep hb
      replace bC := bC.keep hb
      replace bD := bD.keep hb
      replace hB := hB.trans (hb.mono (by have := hB.size; omega))
      clear hb cP0 cP1 cP2 cP3 cP4 cP5 cP6 cP7 cP8 cP9 cP10 cP11 kP
      generalize u4.heap.size = gD at *
      clear hsz
      have lGx := bGx.lt
      have lX1 := bX1.lt
      have lX2 := bX2.lt
      have lP := bP.lt
      have lA := bA.lt
      have lB := bB.lt
      have lC := bC.lt
      have lD := bD.lt
      have hsz : n ≤ u5.heap.size := by have := hB.size; omega
      have bE := Bn.new u5 #[.int .i64 M.x0, .int .i64 M.x1, .int .i64 M.y0, .int .i64 M.y1, .int .i64 M.z0, .int .i64 M.z1] 25
      replace bGx := bGx.alloc (.cells #[.int .i64 M.x0, .int .i64 M.x1, .int .i64 M.y0, .int .i64 M.y1, .int .i64 M.z0, .int .i64 M.z1] 25)
      replace bX1 := bX1.alloc (.cells #[.int .i64 M.x0, .int .i64 M.x1, .int .i64 M.y0, .int .i64 M.y1, .int .i64 M.z0, .int .i64 M.z1] 25)
      replace bX2 := bX2.alloc (.cells #[.int .i64 M.x0, .int .i64 M.x1, .int .i64 M.y0, .int .i64 M.y1, .int .i64 M.z0, .int .i64 M.z1] 25)
      replace bP := bP.alloc (.cells #[.int .i64 M.x0, .int .i64 M.x1, .int .i64 M.y0, .int .i64 M.y1, .int .i64 M.z0, .int .i64 M.z1] 25)
      replace bA := bA.alloc (.cells #[.int .i64 M.x0, .int .i64 M.x1, .int .i64 M.y0, .int .i64 M.y1, .int .i64 M.z0, .int .i64 M.z1] 25)
      replace bB := bB.alloc (.cells #[.int .i64 M.x0, .int .i64 M.x1, .int .i64 M.y0, .int .i64 M.y1, .int .i64 M.z0, .int .i64 M.z1] 25)
      replace bC := bC.alloc (.cells #[.int .i64 M.x0, .int .i64 M.x1, .int .i64 M.y0, .int .i64 M.y1, .int .i64 M.z0, .int .i64 M.z1] 25)
      replace bD := bD.alloc (.cells #[.int .i64 M.x0, .int .i64 M.x1, .int .i64 M.y0, .int .i64 M.y1, .int .i64 M.z0, .int .i64 M.z1] 25)
      replace hB := hB.alloc hsz (.cells #[.int .i64 M.x0, .int .i64 M.x1, .int .i64 M.y0, .int .i64 M.y1, .int .i64 M.z0, .int .i64 M.z1] 25)
      have cP0 : (u5.alloc (.cells #[.int .i64 M.x0, .int .i64 M.x1, .int .i64 M.y0, .int .i64 M.y1, .int .i64 M.z0, .int .i64 M.z1] 25)).cell? ⟨gP, 0, none⟩ = some (.int .i64 e0) := bP.cell 0 _ rfl
      have cP1 : (u5.alloc (.cells #[.int .i64 M.x0, .int .i64 M.x1, .int .i64 M.y0, .int .i64 M.y1, .int .i64 M.z0, .int .i64 M.z1] 25)).cell? ⟨gP, 1, none⟩ = some (.int .i64 e1) := bP.cell 1 _ rfl
      have cP2 : (u5.alloc (.cells #[.int .i64 M.x0, .int .i64 M.x1, .int .i64 M.y0, .int .i64 M.y1, .int .i64 M.z0, .int .i64 M.z1] 25)).cell? ⟨gP, 2, none⟩ = some (.int .i64 e2) := bP.cell 2 _ rfl
      have cP3 : (u5.alloc (.cells #[.int .i64 M.x0, .int .i64 M.x1, .int .i64 M.y0, .int .i64 M.y1, .int .i64 M.z0, .int .i64 M.z1] 25)).cell? ⟨gP, 3, none⟩ = some (.int .i64 e3) := bP.cell 3 _ rfl
      have cP4 : (u5.alloc (.cells #[.int .i64 M.x0, .int .i64 M.x1, .int .i64 M.y0, .int .i64 M.y1, .int .i64 M.z0, .int .i64 M.z1] 25)).cell? ⟨gP, 4, none⟩ = some (.int .i64 e4) := bP.cell 4 _ rfl
      have cP5 : (u5.alloc (.cells #[.int .i64 M.x0, .int .i64 M.x1, .int .i64 M.y0, .int .i64 M.y1, .int .i64 M.z0, .int .i64 M.z1] 25)).cell? ⟨gP, 5, none⟩ = some (.int .i64 e5) := bP.cell 5 _ rfl
      have cP6 : (u5.alloc (.cells #[.int .i64 M.x0, .int .i64 M.x1, .int .i64 M.y0, .int .i64 M.y1, .int .i64 M.z0, .int .i64 M.z1] 25)).cell? ⟨gP, 6, none⟩ = some (.int .i64 f0) := bP.cell 6 _ rfl
      have cP7 : (u5.alloc (.cells #[.int .i64 M.x0, .int .i64 M.x1, .int .i64 M.y0, .int .i64 M.y1, .int .i64 M.z0, .int .i64 M.z1] 25)).cell? ⟨gP, 7, none⟩ = some (.int .i64 f1) := bP.cell 7 _ rfl
      have cP8 : (u5.alloc (.cells #[.int .i64 M.x0, .int .i64 M.x1, .int .i64 M.y0, .int .i64 M.y1, .int .i64 M.z0, .int .i64 M.z1] 25)).cell? ⟨gP, 8, none⟩ = some (.int .i64 f2) := bP.cell 8 _ rfl
      have cP9 : (u5.alloc (.cells #[.int .i64 M.x0, .int .i64 M.x1, .int .i64 M.y0, .int .i64 M.y1, .int .i64 M.z0, .int .i64 M.z1] 25)).cell? ⟨gP, 9, none⟩ = some (.int .i64 f3) := bP.cell 9 _ rfl
      have cP10 : (u5.alloc (.cells #[.int .i64 M.x0, .int .i64 M.x1, .int .i64 M.y0, .int .i64 M.y1, .int .i64 M.z0, .int .i64 M.z1] 25)).cell? ⟨gP, 10, none⟩ = some (.int .i64 f4) := bP.cell 10 _ rfl
      have cP11 : (u5.alloc (.cells #[.int .i64 M.x0, .int .i64 M.x1, .int .i64 M.y0, .int .i64 M.y1, .int .i64 M.z0, .int .i64 M.z1] 25)).cell? ⟨gP, 11, none⟩ = some (.int .i64 f5) := bP.cell 11 _ rfl
      have kP := bP.lt
      go_wp2_with fail
      go_at_call 13
      refine (h6 _).mono ?_
      rintro r u6 ⟨rfl, hb⟩
      replace bGx := bGx.keep hb
      replace bX1 := bX1.keep hb
      replace bX2 := bX2.keep hb
      replace bP := bP.keep hb
      replace bA := bA.keep hb
      replace bB := bB.keep hb
      replace bC := bC.keep hb
      replace bD := bD.keep hb
      replace bE := bE.keep hb
      replace hB := hB.trans (hb.mono (by have := hB.size; omega))
      clear hb cP0 cP1 cP2 cP3 cP4 cP5 cP6 cP7 cP8 cP9 cP10 cP11 kP
      generalize u5.heap.size = gE at *
      clear hsz
      have lGx := bGx.lt
      have lX1 := bX1.lt
      have lX2 := bX2.lt
      have lP := bP.lt
      have lA := bA.lt
      have lB := bB.lt
      have lC := bC.lt
      have lD := bD.lt
      have lE := bE.lt
      have hsz : n ≤ u6.heap.size := by have := hB.size; omega
      have bF := Bn.new u6 #[.int .i64 M.x0, .int .i64 M.x1, .int .i64 M.y0, .int .i64 M.y1, .int .i64 M.z0, .int .i64 M.z1] 25
      replace bGx := bGx.alloc (.cells #[.int .i64 M.x0, .int .i64 M.x1, .int .i64 M.y0, .int .i64 M.y1, .int .i64 M.z0, .int .i64 M.z1] 25)
      replace bX1 := bX1.alloc (.cells #[.int .i64 M.x0, .int .i64 M.x1, .int .i64 M.y0, .int .i64 M.y1, .int .i64 M.z0, .int .i64 M.z1] 25)
      replace bX2 := bX2.alloc (.cells #[.int .i64 M.x0, .int .i64 M.x1, .int .i64 M.y0, .int .i64 M.y1, .int .i64 M.z0, .int .i64 M.z1] 25)
      replace bP := bP.alloc (.cells #[.int .i64 M.x0, .int .i64 M.x1, .int .i64 M.y0, .int .i64 M.y1, .int .i64 M.z0, .int .i64 M.z1] 25)
      replace bA := bA.alloc (.cells #[.int .i64 M.x0, .int .i64 M.x1, .int .i64 M.y0, .int .i64 M.y1, .int .i64 M.z0, .int .i64 M.z1] 25)
      replace bB := bB.alloc (.cells #[.int .i64 M.x0, .int .i64 M.x1, .int .i64 M.y0, .int .i64 M.y1, .int .i64 M.z0, .int .i64 M.z1] 25)
      replace bC := bC.alloc (.cells #[.int .i64 M.x0, .int .i64 M.x1, .int .i64 M.y0, .int .i64 M.y1, .int .i64 M.z0, .int .i64 M.z1] 25)
      replace bD := bD.alloc (.cells #[.int .i64 M.x0, .int .i64 M.x1, .int .i64 M.y0, .int .i64 M.y1, .int .i64 M.z0, .int .i64 M.z1] 25)
      replace bE := bE.alloc (.cells #[.int .i64 M.x0, .int .i64 M.x1, .int .i64 M.y0, .int .i64 M.y1, .int .i64 M.z0, .int .i64 M.z1] 25)
      replace hB := hB.alloc hsz (.cells #[.int .i64 M.x0, .int .i64 M.x1, .int .i64 M.y0, .int .i64 M.y1, .int .i64 M.z0, .int .i64 M.z1] 25)
      clear h1 h2 h3 h4 h5 h6
      go_upto_region 12 with fail
      generalize (u6.alloc (.cells #[.int .i64 M.x0, .int .i64 M.x1, .int .i64 M.y0, .int .i64 M.y1, .int .i64 M.z0, .int .i64 M.z1] 25)) = v1 at *
      generalize u6.heap.size = gF at *
      clear hsz
      go_cut [116] from 33 to 147 (fun vt wx => vt = .bool false ∧ Below n w wx ∧ Bn wx g cs 36 ∧ Bn wx (n + 1) #[.int .i64 sa, .int .i64 sb] 23 ∧ Bn wx (n + 2) #[.int .i64 dx, .int .u8 dy, .int .u32 dz] 28 ∧ Bn wx gP #[.int .i64 e0, .int .i64 e1, .int .i64 e2, .int .i64 e3, .int .i64 e4, .int .i64 e5, .int .i64 f0, .int .i64 f1, .int .i64 f2, .int .i64 f3, .int .i64 f4, .int .i64 f5] 36)
      case first =>
        have cP0 : v1.cell? ⟨gP, 0, none⟩ = some (.int .i64 e0) := bP.cell 0 _ rfl
        have cP1 : v1.cell? ⟨gP, 1, none⟩ = some (.int .i64 e1) := bP.cell 1 _ rfl
        have cP2 : v1.cell? ⟨gP, 2, none⟩ = some (.int .i64 e2) := bP.cell 2 _ rfl
        have cP3 : v1.cell? ⟨gP, 3, none⟩ = some (.int .i64 e3) := bP.cell 3 _ rfl
        have cP4 : v1.cell? ⟨gP, 4, none⟩ = some (.int .i64 e4) := bP.cell 4 _ rfl
        have cP5 : v1.cell? ⟨gP, 5, none⟩ = some (.int .i64 e5) := bP.cell 5 _ rfl
        have cA0 : v1.cell? ⟨gA, 0, none⟩ = some (.int .i64 S.x0) := bA.cell 0 _ rfl
        have cA1 : v1.cell? ⟨gA, 1, none⟩ = some (.int .i64 S.x1) := bA.cell 1 _ rfl
        have cA2 : v1.cell? ⟨gA, 2, none⟩ = some (.int .i64 S.y0) := bA.cell 2 _ rfl
        have cA3 : v1.cell? ⟨gA, 3, none⟩ = some (.int .i64 S.y1) := bA.cell 3 _ rfl
        have cA4 : v1.cell? ⟨gA, 4, none⟩ = some (.int .i64 S.z0) := bA.cell 4 _ rfl
        have cA5 : v1.cell? ⟨gA, 5, none⟩ = some (.int .i64 S.z1) := bA.cell 5 _ rfl
        have cB0 : v1.cell? ⟨gB, 0, none⟩ = some (.int .i64 S.x0) := bB.cell 0 _ rfl
        have cB1 : v1.cell? ⟨gB, 1, none⟩ = some (.int .i64 S.x1) := bB.cell 1 _ rfl
        have cB2 : v1.cell? ⟨gB, 2, none⟩ = some (.int .i64 S.y0) := bB.cell 2 _ rfl
        have cB3 : v1.cell? ⟨gB, 3, none⟩ = some (.int .i64 S.y1) := bB.cell 3 _ rfl
        have cB4 : v1.cell? ⟨gB, 4, none⟩ = some (.int .i64 S.z0) := bB.cell 4 _ rfl
        have cB5 : v1.cell? ⟨gB, 5, none⟩ = some (.int .i64 S.z1) := bB.cell 5 _ rfl
        have cC0 : v1.cell? ⟨gC, 0, none⟩ = some (.int .i64 T.x0) := bC.cell 0 _ rfl
        have cC1 : v1.cell? ⟨gC, 1, none⟩ = some (.int .i64 T.x1) := bC.cell 1 _ rfl
        have cC2 : v1.cell? ⟨gC, 2, none⟩ = some (.int .i64 T.y0) := bC.cell 2 _ rfl
        have cC3 : v1.cell? ⟨gC, 3, none⟩ = some (.int .i64 T.y1) := bC.cell 3 _ rfl
        have cC4 : v1.cell? ⟨gC, 4, none⟩ = some (.int .i64 T.z0) := bC.cell 4 _ rfl
        have cC5 : v1.cell? ⟨gC, 5, none⟩ = some (.int .i64 T.z1) := bC.cell 5 _ rfl
        have cD0 : v1.cell? ⟨gD, 0, none⟩ = some (.int .i64 T.x0) := bD.cell 0 _ rfl
        have cD1 : v1.cell? ⟨gD, 1, none⟩ = some (.int .i64 T.x1) := bD.cell 1 _ rfl
        have cD2 : v1.cell? ⟨gD, 2, none⟩ = some (.int .i64 T.y0) := bD.cell 2 _ rfl
        have cD3 : v1.cell? ⟨gD, 3, none⟩ = some (.int .i64 T.y1) := bD.cell 3 _ rfl
        have cD4 : v1.cell? ⟨gD, 4, none⟩ = some (.int .i64 T.z0) := bD.cell 4 _ rfl
        have cD5 : v1.cell? ⟨gD, 5, none⟩ = some (.int .i64 T.z1) := bD.cell 5 _ rfl
        have cE0 : v1.cell? ⟨gE, 0, none⟩ = some (.int .i64 M.x0) := bE.cell 0 _ rfl
        have cE1 : v1.cell? ⟨gE, 1, none⟩ = some (.int .i64 M.x1) := bE.cell 1 _ rfl
        have cE2 : v1.cell? ⟨gE, 2, none⟩ = some (.int .i64 M.y0) := bE.cell 2 _ rfl
        have cE3 : v1.cell? ⟨gE, 3, none⟩ = some (.int .i64 M.y1) := bE.cell 3 _ rfl
        have cE4 : v1.cell? ⟨gE, 4, none⟩ = some (.int .i64 M.z0) := bE.cell 4 _ rfl
        have cE5 : v1.cell? ⟨gE, 5, none⟩ = some (.int .i64 M.z1) := bE.cell 5 _ rfl
        have cF0 : v1.cell? ⟨gF, 0, none⟩ = some (.int .i64 M.x0) := bF.cell 0 _ rfl
        have cF1 : v1.cell? ⟨gF, 1, none⟩ = some (.int .i64 M.x1) := bF.cell 1 _ rfl
        have cF2 : v1.cell? ⟨gF, 2, none⟩ = some (.int .i64 M.y0) := bF.cell 2 _ rfl
        have cF3 : v1.cell? ⟨gF, 3, none⟩ = some (.int .i64 M.y1) := bF.cell 3 _ rfl
        have cF4 : v1.cell? ⟨gF, 4, none⟩ = some (.int .i64 M.z0) := bF.cell 4 _ rfl
        have cF5 : v1.cell? ⟨gF, 5, none⟩ = some (.int .i64 M.z1) := bF.cell 5 _ rfl
        clear bA bB bC bD bE bF
        go_region_held3 (fun w' => w'.cell? ⟨gP, 0, none⟩ = some (.int .i64 e0) ∧ w'.cell? ⟨gP, 1, none⟩ = some (.int .i64 e1) ∧ w'.cell? ⟨gP, 2, none⟩ = some (.int .i64 e2) ∧ w'.cell? ⟨gP, 3, none⟩ = some (.int .i64 e3) ∧ w'.cell? ⟨gP, 4, none⟩ = some (.int .i64 e4) ∧ w'.cell? ⟨gP, 5, none⟩ = some (.int .i64 e5) ∧ w'.cell? ⟨gA, 0, none⟩ = some (.int .i64 S.x0) ∧ w'.cell? ⟨gA, 1, none⟩ = some (.int .i64 S.x1) ∧ w'.cell? ⟨gA, 2, none⟩ = some (.int .i64 S.y0) ∧ w'.cell? ⟨gA, 3, none⟩ = some (.int .i64 S.y1) ∧ w'.cell? ⟨gA, 4, none⟩ = some (.int .i64 S.z0) ∧ w'.cell? ⟨gA, 5, none⟩ = some (.int .i64 S.z1) ∧ w'.cell? ⟨gB, 0, none⟩ = some (.int .i64 S.x0) ∧ w'.cell? ⟨gB, 1, none⟩ = some (.int .i64 S.x1) ∧ w'.cell? ⟨gB, 2, none⟩ = some (.int .i64 S.y0) ∧ w'.cell? ⟨gB, 3, none⟩ = some (.int .i64 S.y1) ∧ w'.cell? ⟨gB, 4, none⟩ = some (.int .i64 S.z0) ∧ w'.cell? ⟨gB, 5, none⟩ = some (.int .i64 S.z1) ∧ w'.cell? ⟨gC, 0, none⟩ = some (.int .i64 T.x0) ∧ w'.cell? ⟨gC, 1, none⟩ = some (.int .i64 T.x1) ∧ w'.cell? ⟨gC, 2, none⟩ = some (.int .i64 T.y0) ∧ w'.cell? ⟨gC, 3, none⟩ = some (.int .i64 T.y1) ∧ w'.cell? ⟨gC, 4, none⟩ = some (.int .i64 T.z0) ∧ w'.cell? ⟨gC, 5, none⟩ = some (.int .i64 T.z1) ∧ w'.cell? ⟨gD, 0, none⟩ = some (.int .i64 T.x0) ∧ w'.cell? ⟨gD, 1, none⟩ = some (.int .i64 T.x1) ∧ w'.cell? ⟨gD, 2, none⟩ = some (.int .i64 T.y0) ∧ w'.cell? ⟨gD, 3, none⟩ = some (.int .i64 T.y1) ∧ w'.cell? ⟨gD, 4, none⟩ = some (.int .i64 T.z0) ∧ w'.cell? ⟨gD, 5, none⟩ = some (.int .i64 T.z1) ∧ w'.cell? ⟨gE, 0, none⟩ = some (.int .i64 M.x0) ∧ w'.cell? ⟨gE, 1, none⟩ = some (.int .i64 M.x1) ∧ w'.cell? ⟨gE, 2, none⟩ = some (.int .i64 M.y0) ∧ w'.cell? ⟨gE, 3, none⟩ = some (.int .i64 M.y1) ∧ w'.cell? ⟨gE, 4, none⟩ = some (.int .i64 M.z0) ∧ w'.cell? ⟨gE, 5, none⟩ = some (.int .i64 M.z1) ∧ w'.cell? ⟨gF, 0, none⟩ = some (.int .i64 M.x0) ∧ w'.cell? ⟨gF, 1, none⟩ = some (.int .i64 M.x1) ∧ w'.cell? ⟨gF, 2, none⟩ = some (.int .i64 M.y0) ∧ w'.cell? ⟨gF, 3, none⟩ = some (.int .i64 M.y1) ∧ w'.cell? ⟨gF, 4, none⟩ = some (.int .i64 M.z0) ∧ w'.cell? ⟨gF, 5, none⟩ = some (.int .i64 M.z1))
          (first | with_reducible exact ⟨cP0, cP1, cP2, cP3, cP4, cP5, cA0, cA1, cA2, cA3, cA4, cA5, cB0, cB1, cB2, cB3, cB4, cB5, cC0, cC1, cC2, cC3, cC4, cC5, cD0, cD1, cD2, cD3, cD4, cD5, cE0, cE1, cE2, cE3, cE4, cE5, cF0, cF1, cF2, cF3, cF4, cF5⟩ | with_reducible exact ⟨cellDrewI cP0, cellDrewI cP1, cellDrewI cP2, cellDrewI cP3, cellDrewI cP4, cellDrewI cP5, cellDrewI cA0, cellDrewI cA1, cellDrewI cA2, cellDrewI cA3, cellDrewI cA4, cellDrewI cA5, cellDrewI cB0, cellDrewI cB1, cellDrewI cB2, cellDrewI cB3, cellDrewI cB4, cellDrewI cB5, cellDrewI cC0, cellDrewI cC1, cellDrewI cC2, cellDrewI cC3, cellDrewI cC4, cellDrewI cC5, cellDrewI cD0, cellDrewI cD1, cellDrewI cD2, cellDrewI cD3, cellDrewI cD4, cellDrewI cD5, cellDrewI cE0, cellDrewI cE1, cellDrewI cE2, cellDrewI cE3, cellDrewI cE4, cellDrewI cE5, cellDrewI cF0, cellDrewI cF1, cellDrewI cF2, cellDrewI cF3, cellDrewI cF4, cellDrewI cF5⟩)
          (first | (go_at_call 14; (with_reducible refine (h7 _).mono ?_); rintro rr uz ⟨rfl, hb⟩; (with_reducible (first | (replace hb := vUndrew hb) | skip)); replace cP0 := bkeep hb cP0; replace cP1 := bkeep hb cP1; replace cP2 := bkeep hb cP2; replace cP3 := bkeep hb cP3; replace cP4 := bkeep hb cP4; replace cP5 := bkeep hb cP5; replace cA0 := bkeep hb cA0; replace cA1 := bkeep hb cA1; replace cA2 := bkeep hb cA2; replace cA3 := bkeep hb cA3; replace cA4 := bkeep hb cA4; replace cA5 := bkeep hb cA5; replace cB0 := bkeep hb cB0; replace cB1 := bkeep hb cB1; replace cB2 := bkeep hb cB2; replace cB3 := bkeep hb cB3; replace cB4 := bkeep hb cB4; replace cB5 := bkeep hb cB5; replace cC0 := bkeep hb cC0; replace cC1 := bkeep hb cC1; replace cC2 := bkeep hb cC2; replace cC3 := bkeep hb cC3; replace cC4 := bkeep hb cC4; replace cC5 := bkeep hb cC5; replace cD0 := bkeep hb cD0; replace cD1 := bkeep hb cD1; replace cD2 := bkeep hb cD2; replace cD3 := bkeep hb cD3; replace cD4 := bkeep hb cD4; replace cD5 := bkeep hb cD5; replace cE0 := bkeep hb cE0; replace cE1 := bkeep hb cE1; replace cE2 := bkeep hb cE2; replace cE3 := bkeep hb cE3; replace cE4 := bkeep hb cE4; replace cE5 := bkeep hb cE5; replace cF0 := bkeep hb cF0; replace cF1 := bkeep hb cF1; replace cF2 := bkeep hb cF2; replace cF3 := bkeep hb cF3; replace cF4 := bkeep hb cF4; replace cF5 := bkeep hb cF5; replace bGx := bGx.keep hb; replace bX1 := bX1.keep hb; replace bX2 := bX2.keep hb; replace bP := bP.keep hb; replace hB := hB.trans (hb.mono (by have := hB.size; omega)); clear hb) | (go_at_call 15; (with_reducible refine (h8 _).mono ?_); rintro rr uz ⟨rfl, hb⟩; (with_reducible (first | (replace hb := vUndrew hb) | skip)); replace cP0 := bkeep hb cP0; replace cP1 := bkeep hb cP1; replace cP2 := bkeep hb cP2; replace cP3 := bkeep hb cP3; replace cP4 := bkeep hb cP4; replace cP5 := bkeep hb cP5; replace cA0 := bkeep hb cA0; replace cA1 := bkeep hb cA1; replace cA2 := bkeep hb cA2; replace cA3 := bkeep hb cA3; replace cA4 := bkeep hb cA4; replace cA5 := bkeep hb cA5; replace cB0 := bkeep hb cB0; replace cB1 := bkeep hb cB1; replace cB2 := bkeep hb cB2; replace cB3 := bkeep hb cB3; replace cB4 := bkeep hb cB4; replace cB5 := bkeep hb cB5; replace cC0 := bkeep hb cC0; replace cC1 := bkeep hb cC1; replace cC2 := bkeep hb cC2; replace cC3 := bkeep hb cC3; replace cC4 := bkeep hb cC4; replace cC5 := bkeep hb cC5; replace cD0 := bkeep hb cD0; replace cD1 := bkeep hb cD1; replace cD2 := bkeep hb cD2; replace cD3 := bkeep hb cD3; replace cD4 := bkeep hb cD4; replace cD5 := bkeep hb cD5; replace cE0 := bkeep hb cE0; replace cE1 := bkeep hb cE1; replace cE2 := bkeep hb cE2; replace cE3 := bkeep hb cE3; replace cE4 := bkeep hb cE4; replace cE5 := bkeep hb cE5; replace cF0 := bkeep hb cF0; replace cF1 := bkeep hb cF1; replace cF2 := bkeep hb cF2; replace cF3 := bkeep hb cF3; replace cF4 := bkeep hb cF4; replace cF5 := bkeep hb cF5; replace bGx := bGx.keep hb; replace bX1 := bX1.keep hb; replace bX2 := bX2.keep hb; replace bP := bP.keep hb; replace hB := hB.trans (hb.mono (by have := hB.size; omega)); clear hb))
        all_goals (go_wp2_with fail; go_meet)
        all_goals exact ⟨rfl, hB, bGx, bX1, bX2, bP⟩
      case rest =>
        as_aux_lemma =>
          clear hB qS qT qM h7 h8 bGx bX1 bX2 bP bA bB bC bD bE bF
          obtain ⟨rfl, hB, bGx, bX1, bX2, bP⟩ := hcut
          go_upto_region 14 with fail
          go_cut [120, 121] from 33 to 147 (fun vt vj wx => vt = .agg #[.int .i64 sa, .int .i64 sb, .int .i64 ta, .int .i64 tb] ∧ vj = .int .i64 0 ∧ Below n w wx ∧ Bn wx g cs 36 ∧ Bn wx (n + 1) #[.int .i64 sa, .int .i64 sb] 23 ∧ Bn wx (n + 2) #[.int .i64 dx, .int .u8 dy, .int .u32 dz] 28 ∧ Bn wx gP #[.int .i64 e0, .int .i64 e1, .int .i64 e2, .int .i64 e3, .int .i64 e4, .int .i64 e5, .int .i64 f0, .int .i64 f1, .int .i64 f2, .int .i64 f3, .int .i64 f4, .int .i64 f5] 36)
          case first =>
            have d0 : wc.cell? ⟨n + 1, 0, none⟩ = some (.int .i64 sa) := bX1.cell 0 _ rfl
            have d1 : wc.cell? ⟨n + 1, 1, none⟩ = some (.int .i64 sb) := bX1.cell 1 _ rfl
            have d2 : wc.cell? ⟨n + 2, 0, none⟩ = some (.int .i64 dx) := bX2.cell 0 _ rfl
            have d3 : wc.cell? ⟨n + 2, 1, none⟩ = some (.int .u8 dy) := bX2.cell 1 _ rfl
            have d4 : wc.cell? ⟨n + 2, 2, none⟩ = some (.int .u32 dz) := bX2.cell 2 _ rfl
            go_region_held3 (fun w' => w'.cell? ⟨n + 1, 0, none⟩ = some (.int .i64 sa) ∧ w'.cell? ⟨n + 1, 1, none⟩ = some (.int .i64 sb) ∧ w'.cell? ⟨n + 2, 0, none⟩ = some (.int .i64 dx) ∧ w'.cell? ⟨n + 2, 1, none⟩ = some (.int .u8 dy) ∧ w'.cell? ⟨n + 2, 2, none⟩ = some (.int .u32 dz))
              (first | with_reducible exact ⟨d0, d1, d2, d3, d4⟩ | with_reducible exact ⟨cellDrewI d0, cellDrewI d1, cellDrewI d2, cellDrewI d3, cellDrewI d4⟩)
              (first | (go_at_call 16; (with_reducible refine (hT _).mono ?_); rintro rr uz ⟨rfl, hb⟩; (with_reducible (first | (replace hb := vUndrew hb) | skip)); replace d0 := bkeep hb d0; replace d1 := bkeep hb d1; replace d2 := bkeep hb d2; replace d3 := bkeep hb d3; replace d4 := bkeep hb d4; replace bGx := bGx.keep hb; replace bX1 := bX1.keep hb; replace bX2 := bX2.keep hb; replace bP := bP.keep hb; replace hB := hB.trans (hb.mono (by have := hB.size; omega)); clear hb))
            all_goals (go_wp2_with fail; go_meet)
            all_goals exact ⟨rfl, rfl, hB, bGx, bX1, bX2, bP⟩
          case rest =>
            as_aux_lemma =>
              clear hB bGx bX1 bX2 bP
              obtain ⟨rfl, rfl, hB, bGx, bX1, bX2, bP⟩ := hcut
              have hidx : ∀ j : Int, 0 ≤ j → j < 2 → ∃ l h : Int, ∀ w, (Instr.index 43 (.agg #[.int .i64 sa, .int .i64 sb, .int .i64 ta, .int .i64 tb]) (.int .i64 j)).run Tryz.prog w = .ok (.agg #[.int .i64 l, .int .i64 h]) w := by
                intro j h0 h1
                obtain rfl | rfl : j = 0 ∨ j = 1 := by omega
                · exact ⟨sa, sb, fun _ => by kernel_rfl⟩
                · exact ⟨ta, tb, fun _ => by kernel_rfl⟩
              replace hidx := Lib.hid hidx
              go_wp2_with fail
              go_loopw [121] (fun vi wx => ∃ j : Int, 0 ≤ j ∧ j ≤ 2 ∧ vi = .int .i64 j ∧ Below n w wx ∧ Bn wx g cs 36 ∧ Bn wx (n + 1) #[.int .i64 sa, .int .i64 sb] 23 ∧ Bn wx (n + 2) #[.int .i64 dx, .int .u8 dy, .int .u32 dz] 28 ∧ Bn wx gP #[.int .i64 e0, .int .i64 e1, .int .i64 e2, .int .i64 e3, .int .i64 e4, .int .i64 e5, .int .i64 f0, .int .i64 f1, .int .i64 f2, .int .i64 f3, .int .i64 f4, .int .i64 f5] 36) (fun vi _ => 2 - (intOf vi).toNat)
              case atStart => exact ⟨0, by omega, by omega, rfl, hB, bGx, bX1, bX2, bP⟩
              case round =>
                clear hB bGx bX1 bX2 bP
                obtain ⟨j, z0, z2, rfl, hB, bGx, bX1, bX2, bP⟩ := hrel
                by_cases hj : j < 2
                · obtain ⟨l, h, hi⟩ := hidx.out j z0 hj
                  have h1 := fun w => hs1 l h w
                  have h2 := fun w => hs2 l h w
                  generalize vScaleR e0 e1 e2 e3 e4 e5 l h = Q at *
                  have qQ := fun w => eqV_self Q.x0 Q.x1 Q.y0 Q.y1 Q.z0 Q.z1 w
                  clear hs1 hs2 hidx hT
                  have lGx := bGx.lt
                  have lX1 := bX1.lt
                  have lX2 := bX2.lt
                  have lP := bP.lt
                  have hsz : n ≤ wr.heap.size := by have := hB.size; omega
                  have bY := Bn.new wr #[.int .i64 l, .int .i64 h] 23
                  replace bGx := bGx.alloc (.cells #[.int .i64 l, .int .i64 h] 23)
                  replace bX1 := bX1.alloc (.cells #[.int .i64 l, .int .i64 h] 23)
                  replace bX2 := bX2.alloc (.cells #[.int .i64 l, .int .i64 h] 23)
                  replace bP := bP.alloc (.cells #[.int .i64 l, .int .i64 h] 23)
                  replace hB := hB.alloc hsz (.cells #[.int .i64 l, .int .i64 h] 23)
                  have cP0 : (wr.alloc (.cells #[.int .i64 l, .int .i64 h] 23)).cell? ⟨gP, 0, none⟩ = some (.int .i64 e0) := bP.cell 0 _ rfl
                  have cP1 : (wr.alloc (.cells #[.int .i64 l, .int .i64 h] 23)).cell? ⟨gP, 1, none⟩ = some (.int .i64 e1) := bP.cell 1 _ rfl
                  have cP2 : (wr.alloc (.cells #[.int .i64 l, .int .i64 h] 23)).cell? ⟨gP, 2, none⟩ = some (.int .i64 e2) := bP.cell 2 _ rfl
                  have cP3 : (wr.alloc (.cells #[.int .i64 l, .int .i64 h] 23)).cell? ⟨gP, 3, none⟩ = some (.int .i64 e3) := bP.cell 3 _ rfl
                  have cP4 : (wr.alloc (.cells #[.int .i64 l, .int .i64 h] 23)).cell? ⟨gP, 4, none⟩ = some (.int .i64 e4) := bP.cell 4 _ rfl
                  have cP5 : (wr.alloc (.cells #[.int .i64 l, .int .i64 h] 23)).cell? ⟨gP, 5, none⟩ = some (.int .i64 e5) := bP.cell 5 _ rfl
                  have cP6 : (wr.alloc (.cells #[.int .i64 l, .int .i64 h] 23)).cell? ⟨gP, 6, none⟩ = some (.int .i64 f0) := bP.cell 6 _ rfl
                  have cP7 : (wr.alloc (.cells #[.int .i64 l, .int .i64 h] 23)).cell? ⟨gP, 7, none⟩ = some (.int .i64 f1) := bP.cell 7 _ rfl
                  have cP8 : (wr.alloc (.cells #[.int .i64 l, .int .i64 h] 23)).cell? ⟨gP, 8, none⟩ = some (.int .i64 f2) := bP.cell 8 _ rfl
                  have cP9 : (wr.alloc (.cells #[.int .i64 l, .int .i64 h] 23)).cell? ⟨gP, 9, none⟩ = some (.int .i64 f3) := bP.cell 9 _ rfl
                  have cP10 : (wr.alloc (.cells #[.int .i64 l, .int .i64 h] 23)).cell? ⟨gP, 10, none⟩ = some (.int .i64 f4) := bP.cell 10 _ rfl
                  have cP11 : (wr.alloc (.cells #[.int .i64 l, .int .i64 h] 23)).cell? ⟨gP, 11, none⟩ = some (.int .i64 f5) := bP.cell 11 _ rfl
                  have kP := bP.lt
                  have cY0 : (wr.alloc (.cells #[.int .i64 l, .int .i64 h] 23)).cell? ⟨wr.heap.size, 0, none⟩ = some (.int .i64 l) := bY.cell 0 _ rfl
                  have cY1 : (wr.alloc (.cells #[.int .i64 l, .int .i64 h] 23)).cell? ⟨wr.heap.size, 1, none⟩ = some (.int .i64 h) := bY.cell 1 _ rfl
                  have kY := bY.lt
                  go_wp2_with fail
                  go_at_call 17
                  refine (h1 _).mono ?_
                  rintro r u7 ⟨rfl, hb⟩
                  replace bGx := bGx.keep hb
                  replace bX1 := bX1.keep hb
                  replace bX2 := bX2.keep hb
                  replace bP := bP.keep hb
                  replace bY := bY.keep hb
                  replace hB := hB.trans (hb.mono (by have := hB.size; omega))
                  clear hb cP0 cP1 cP2 cP3 cP4 cP5 cP6 cP7 cP8 cP9 cP10 cP11 kP cY0 cY1 kY
                  generalize wr.heap.size = gY at *
                  clear hsz
                  have lGx := bGx.lt
                  have lX1 := bX1.lt
                  have lX2 := bX2.lt
                  have lP := bP.lt
                  have lY := bY.lt
                  have hsz : n ≤ u7.heap.size := by have := hB.size; omega
                  have bU := Bn.new u7 #[.int .i64 Q.x0, .int .i64 Q.x1, .int .i64 Q.y0, .int .i64 Q.y1, .int .i64 Q.z0, .int .i64 Q.z1] 25
                  replace bGx := bGx.alloc (.cells #[.int .i64 Q.x0, .int .i64 Q.x1, .int .i64 Q.y0, .int .i64 Q.y1, .int .i64 Q.z0, .int .i64 Q.z1] 25)
                  replace bX1 := bX1.alloc (.cells #[.int .i64 Q.x0, .int .i64 Q.x1, .int .i64 Q.y0, .int .i64 Q.y1, .int .i64 Q.z0, .int .i64 Q.z1] 25)
                  replace bX2 := bX2.alloc (.cells #[.int .i64 Q.x0, .int .i64 Q.x1, .int .i64 Q.y0, .int .i64 Q.y1, .int .i64 Q.z0, .int .i64 Q.z1] 25)
                  replace bP := bP.alloc (.cells #[.int .i64 Q.x0, .int .i64 Q.x1, .int .i64 Q.y0, .int .i64 Q.y1, .int .i64 Q.z0, .int .i64 Q.z1] 25)
                  replace bY := bY.alloc (.cells #[.int .i64 Q.x0, .int .i64 Q.x1, .int .i64 Q.y0, .int .i64 Q.y1, .int .i64 Q.z0, .int .i64 Q.z1] 25)
                  replace hB := hB.alloc hsz (.cells #[.int .i64 Q.x0, .int .i64 Q.x1, .int .i64 Q.y0, .int .i64 Q.y1, .int .i64 Q.z0, .int .i64 Q.z1] 25)
                  have cP0 : (u7.alloc (.cells #[.int .i64 Q.x0, .int .i64 Q.x1, .int .i64 Q.y0, .int .i64 Q.y1, .int .i64 Q.z0, .int .i64 Q.z1] 25)).cell? ⟨gP, 0, none⟩ = some (.int .i64 e0) := bP.cell 0 _ rfl
                  have cP1 : (u7.alloc (.cells #[.int .i64 Q.x0, .int .i64 Q.x1, .int .i64 Q.y0, .int .i64 Q.y1, .int .i64 Q.z0, .int .i64 Q.z1] 25)).cell? ⟨gP, 1, none⟩ = some (.int .i64 e1) := bP.cell 1 _ rfl
                  have cP2 : (u7.alloc (.cells #[.int .i64 Q.x0, .int .i64 Q.x1, .int .i64 Q.y0, .int .i64 Q.y1, .int .i64 Q.z0, .int .i64 Q.z1] 25)).cell? ⟨gP, 2, none⟩ = some (.int .i64 e2) := bP.cell 2 _ rfl
                  have cP3 : (u7.alloc (.cells #[.int .i64 Q.x0, .int .i64 Q.x1, .int .i64 Q.y0, .int .i64 Q.y1, .int .i64 Q.z0, .int .i64 Q.z1] 25)).cell? ⟨gP, 3, none⟩ = some (.int .i64 e3) := bP.cell 3 _ rfl
                  have cP4 : (u7.alloc (.cells #[.int .i64 Q.x0, .int .i64 Q.x1, .int .i64 Q.y0, .int .i64 Q.y1, .int .i64 Q.z0, .int .i64 Q.z1] 25)).cell? ⟨gP, 4, none⟩ = some (.int .i64 e4) := bP.cell 4 _ rfl
                  have cP5 : (u7.alloc (.cells #[.int .i64 Q.x0, .int .i64 Q.x1, .int .i64 Q.y0, .int .i64 Q.y1, .int .i64 Q.z0, .int .i64 Q.z1] 25)).cell? ⟨gP, 5, none⟩ = some (.int .i64 e5) := bP.cell 5 _ rfl
                  have cP6 : (u7.alloc (.cells #[.int .i64 Q.x0, .int .i64 Q.x1, .int .i64 Q.y0, .int .i64 Q.y1, .int .i64 Q.z0, .int .i64 Q.z1] 25)).cell? ⟨gP, 6, none⟩ = some (.int .i64 f0) := bP.cell 6 _ rfl
                  have cP7 : (u7.alloc (.cells #[.int .i64 Q.x0, .int .i64 Q.x1, .int .i64 Q.y0, .int .i64 Q.y1, .int .i64 Q.z0, .int .i64 Q.z1] 25)).cell? ⟨gP, 7, none⟩ = some (.int .i64 f1) := bP.cell 7 _ rfl
                  have cP8 : (u7.alloc (.cells #[.int .i64 Q.x0, .int .i64 Q.x1, .int .i64 Q.y0, .int .i64 Q.y1, .int .i64 Q.z0, .int .i64 Q.z1] 25)).cell? ⟨gP, 8, none⟩ = some (.int .i64 f2) := bP.cell 8 _ rfl
                  have cP9 : (u7.alloc (.cells #[.int .i64 Q.x0, .int .i64 Q.x1, .int .i64 Q.y0, .int .i64 Q.y1, .int .i64 Q.z0, .int .i64 Q.z1] 25)).cell? ⟨gP, 9, none⟩ = some (.int .i64 f3) := bP.cell 9 _ rfl
                  have cP10 : (u7.alloc (.cells #[.int .i64 Q.x0, .int .i64 Q.x1, .int .i64 Q.y0, .int .i64 Q.y1, .int .i64 Q.z0, .int .i64 Q.z1] 25)).cell? ⟨gP, 10, none⟩ = some (.int .i64 f4) := bP.cell 10 _ rfl
                  have cP11 : (u7.alloc (.cells #[.int .i64 Q.x0, .int .i64 Q.x1, .int .i64 Q.y0, .int .i64 Q.y1, .int .i64 Q.z0, .int .i64 Q.z1] 25)).cell? ⟨gP, 11, none⟩ = some (.int .i64 f5) := bP.cell 11 _ rfl
                  have kP := bP.lt
                  have cY0 : (u7.alloc (.cells #[.int .i64 Q.x0, .int .i64 Q.x1, .int .i64 Q.y0, .int .i64 Q.y1, .int .i64 Q.z0, .int .i64 Q.z1] 25)).cell? ⟨gY, 0, none⟩ = some (.int .i64 l) := bY.cell 0 _ rfl
                  have cY1 : (u7.alloc (.cells #[.int .i64 Q.x0, .int .i64 Q.x1, .int .i64 Q.y0, .int .i64 Q.y1, .int .i64 Q.z0, .int .i64 Q.z1] 25)).cell? ⟨gY, 1, none⟩ = some (.int .i64 h) := bY.cell 1 _ rfl
                  have kY := bY.lt
                  go_wp2_with fail
                  go_at_call 18
                  refine (h2 _).mono ?_
                  rintro r u8 ⟨rfl, hb⟩
                  replace bGx := bGx.keep hb
                  replace bX1 := bX1.keep hb
                  replace bX2 := bX2.keep hb
                  replace bP := bP.keep hb
                  replace bY := bY.keep hb
                  replace bU := bU.keep hb
                  replace hB := hB.trans (hb.mono (by have := hB.size; omega))
                  clear hb cP0 cP1 cP2 cP3 cP4 cP5 cP6 cP7 cP8 cP9 cP10 cP11 kP cY0 cY1 kY
                  generalize u7.heap.size = gU at *
                  clear hsz
                  have lGx := bGx.lt
                  have lX1 := bX1.lt
                  have lX2 := bX2.lt
                  have lP := bP.lt
                  have lY := bY.lt
                  have lU := bU.lt
                  have hsz : n ≤ u8.heap.size := by have := hB.size; omega
                  have bV := Bn.new u8 #[.int .i64 Q.x0, .int .i64 Q.x1, .int .i64 Q.y0, .int .i64 Q.y1, .int .i64 Q.z0, .int .i64 Q.z1] 25
                  replace bGx := bGx.alloc (.cells #[.int .i64 Q.x0, .int .i64 Q.x1, .int .i64 Q.y0, .int .i64 Q.y1, .int .i64 Q.z0, .int .i64 Q.z1] 25)
                  replace bX1 := bX1.alloc (.cells #[.int .i64 Q.x0, .int .i64 Q.x1, .int .i64 Q.y0, .int .i64 Q.y1, .int .i64 Q.z0, .int .i64 Q.z1] 25)
                  replace bX2 := bX2.alloc (.cells #[.int .i64 Q.x0, .int .i64 Q.x1, .int .i64 Q.y0, .int .i64 Q.y1, .int .i64 Q.z0, .int .i64 Q.z1] 25)
                  replace bP := bP.alloc (.cells #[.int .i64 Q.x0, .int .i64 Q.x1, .int .i64 Q.y0, .int .i64 Q.y1, .int .i64 Q.z0, .int .i64 Q.z1] 25)
                  replace bY := bY.alloc (.cells #[.int .i64 Q.x0, .int .i64 Q.x1, .int .i64 Q.y0, .int .i64 Q.y1, .int .i64 Q.z0, .int .i64 Q.z1] 25)
                  replace bU := bU.alloc (.cells #[.int .i64 Q.x0, .int .i64 Q.x1, .int .i64 Q.y0, .int .i64 Q.y1, .int .i64 Q.z0, .int .i64 Q.z1] 25)
                  replace hB := hB.alloc hsz (.cells #[.int .i64 Q.x0, .int .i64 Q.x1, .int .i64 Q.y0, .int .i64 Q.y1, .int .i64 Q.z0, .int .i64 Q.z1] 25)
                  have cU0 : (u8.alloc (.cells #[.int .i64 Q.x0, .int .i64 Q.x1, .int .i64 Q.y0, .int .i64 Q.y1, .int .i64 Q.z0, .int .i64 Q.z1] 25)).cell? ⟨gU, 0, none⟩ = some (.int .i64 Q.x0) := bU.cell 0 _ rfl
                  have cU1 : (u8.alloc (.cells #[.int .i64 Q.x0, .int .i64 Q.x1, .int .i64 Q.y0, .int .i64 Q.y1, .int .i64 Q.z0, .int .i64 Q.z1] 25)).cell? ⟨gU, 1, none⟩ = some (.int .i64 Q.x1) := bU.cell 1 _ rfl
                  have cU2 : (u8.alloc (.cells #[.int .i64 Q.x0, .int .i64 Q.x1, .int .i64 Q.y0, .int .i64 Q.y1, .int .i64 Q.z0, .int .i64 Q.z1] 25)).cell? ⟨gU, 2, none⟩ = some (.int .i64 Q.y0) := bU.cell 2 _ rfl
                  have cU3 : (u8.alloc (.cells #[.int .i64 Q.x0, .int .i64 Q.x1, .int .i64 Q.y0, .int .i64 Q.y1, .int .i64 Q.z0, .int .i64 Q.z1] 25)).cell? ⟨gU, 3, none⟩ = some (.int .i64 Q.y1) := bU.cell 3 _ rfl
                  have cU4 : (u8.alloc (.cells #[.int .i64 Q.x0, .int .i64 Q.x1, .int .i64 Q.y0, .int .i64 Q.y1, .int .i64 Q.z0, .int .i64 Q.z1] 25)).cell? ⟨gU, 4, none⟩ = some (.int .i64 Q.z0) := bU.cell 4 _ rfl
                  have cU5 : (u8.alloc (.cells #[.int .i64 Q.x0, .int .i64 Q.x1, .int .i64 Q.y0, .int .i64 Q.y1, .int .i64 Q.z0, .int .i64 Q.z1] 25)).cell? ⟨gU, 5, none⟩ = some (.int .i64 Q.z1) := bU.cell 5 _ rfl
                  have kU := bU.lt
                  have cV0 : (u8.alloc (.cells #[.int .i64 Q.x0, .int .i64 Q.x1, .int .i64 Q.y0, .int .i64 Q.y1, .int .i64 Q.z0, .int .i64 Q.z1] 25)).cell? ⟨u8.heap.size, 0, none⟩ = some (.int .i64 Q.x0) := bV.cell 0 _ rfl
                  have cV1 : (u8.alloc (.cells #[.int .i64 Q.x0, .int .i64 Q.x1, .int .i64 Q.y0, .int .i64 Q.y1, .int .i64 Q.z0, .int .i64 Q.z1] 25)).cell? ⟨u8.heap.size, 1, none⟩ = some (.int .i64 Q.x1) := bV.cell 1 _ rfl
                  have cV2 : (u8.alloc (.cells #[.int .i64 Q.x0, .int .i64 Q.x1, .int .i64 Q.y0, .int .i64 Q.y1, .int .i64 Q.z0, .int .i64 Q.z1] 25)).cell? ⟨u8.heap.size, 2, none⟩ = some (.int .i64 Q.y0) := bV.cell 2 _ rfl
                  have cV3 : (u8.alloc (.cells #[.int .i64 Q.x0, .int .i64 Q.x1, .int .i64 Q.y0, .int .i64 Q.y1, .int .i64 Q.z0, .int .i64 Q.z1] 25)).cell? ⟨u8.heap.size, 3, none⟩ = some (.int .i64 Q.y1) := bV.cell 3 _ rfl
                  have cV4 : (u8.alloc (.cells #[.int .i64 Q.x0, .int .i64 Q.x1, .int .i64 Q.y0, .int .i64 Q.y1, .int .i64 Q.z0, .int .i64 Q.z1] 25)).cell? ⟨u8.heap.size, 4, none⟩ = some (.int .i64 Q.z0) := bV.cell 4 _ rfl
                  have cV5 : (u8.alloc (.cells #[.int .i64 Q.x0, .int .i64 Q.x1, .int .i64 Q.y0, .int .i64 Q.y1, .int .i64 Q.z0, .int .i64 Q.z1] 25)).cell? ⟨u8.heap.size, 5, none⟩ = some (.int .i64 Q.z1) := bV.cell 5 _ rfl
                  have kV := bV.lt
                  go_wp2_with fail
                  go_roundw
                  case rel => exact ⟨j + 1, by omega, by omega, by go_num, hB, bGx, bX1, bX2, bP⟩
                  case measure => simp [intOf]; omega
                · clear hidx
                  go_wp2_with fail
                  go_roundw
                  case rel => exact ⟨k + 1, by omega, by omega, by go_num, hB, bGx, bX1, bX2⟩
                  case measure => simp [intOf]; omega
    · go_wp2
      go_ret
      subst hn
      exact ⟨rfl, hB⟩
end Go.Proofs.YtnfapdmbkpkkdaaGreat
