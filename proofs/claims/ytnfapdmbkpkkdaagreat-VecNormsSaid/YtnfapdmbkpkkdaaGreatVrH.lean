/-
  VecNorms: the walk.
-/
import Derived.Test.YtnfapdmbkpkkdaaGreatVcL
import Derived.Test.YtnfapdmbkpkkdaaGreatVrG
namespace Go.Proofs.YtnfapdmbkpkkdaaGreat
open Go.RowKit

set_option maxRecDepth 100000 in
set_option maxHeartbeats 16000000 in
theorem vecNorms_true (a0 a1 a2 a3 a4 a5 d0 d1 d2 d3 d4 d5 p0 q0 r0 p1 q1 r1 p2 q2 r2 p3 q3 r3 p4 q4 r4 p5 q5 r5 : Int) (w : World) (q00 : 0 ≤ q0) (q01 : q0 ≤ 255) (r00 : 0 ≤ r0) (r01 : r0 ≤ 4294967295) (q10 : 0 ≤ q1) (q11 : q1 ≤ 255) (r10 : 0 ≤ r1) (r11 : r1 ≤ 4294967295) (q20 : 0 ≤ q2) (q21 : q2 ≤ 255) (r20 : 0 ≤ r2) (r21 : r2 ≤ 4294967295) (q30 : 0 ≤ q3) (q31 : q3 ≤ 255) (r30 : 0 ≤ r3) (r31 : r3 ≤ 4294967295) (q40 : 0 ≤ q4) (q41 : q4 ≤ 255) (r40 : 0 ≤ r4) (r41 : r4 ≤ 4294967295) (q50 : 0 ≤ q5) (q51 : q5 ≤ 255) (r50 : 0 ≤ r5) (r51 : r5 ≤ 4294967295) :
    Calls Tryz.prog 5 #[.agg #[.int .i64 a0, .int .i64 a1, .int .i64 a2, .int .i64 a3, .int .i64 a4, .int .i64 a5, .int .i64 d0, .int .i64 d1, .int .i64 d2, .int .i64 d3, .int .i64 d4, .int .i64 d5, .int .i64 p0, .int .u8 q0, .int .u32 r0, .int .i64 p1, .int .u8 q1, .int .u32 r1, .int .i64 p2, .int .u8 q2, .int .u32 r2, .int .i64 p3, .int .u8 q3, .int .u32 r3, .int .i64 p4, .int .u8 q4, .int .u32 r4, .int .i64 p5, .int .u8 q5, .int .u32 r5]] w fun r w' => r = .returned (.bool true) ∧ Below w.heap.size w w' := by
  obtain ⟨x0, x1, x2, x3, x4, x5, y0, y1, y2, y3, y4, y5, s0, s1, s2, s3, s4, s5, hx, hy, hs, hP⟩ := vPairs_any a0 a1 a2 a3 a4 a5 d0 d1 d2 d3 d4 d5 p0 q0 r0 p1 q1 r1 p2 q2 r2 p3 q3 r3 p4 q4 r4 p5 q5 r5 q00 q01 r00 r01 q10 q11 r10 r11 q20 q21 r20 r21 q30 q31 r30 r31 q40 q41 r40 r41 q50 q51 r50 r51
  have b0_ := Bn.new w #[.int .i64 a0, .int .i64 a1, .int .i64 a2, .int .i64 a3, .int .i64 a4, .int .i64 a5, .int .i64 d0, .int .i64 d1, .int .i64 d2, .int .i64 d3, .int .i64 d4, .int .i64 d5, .int .i64 p0, .int .u8 q0, .int .u32 r0, .int .i64 p1, .int .u8 q1, .int .u32 r1, .int .i64 p2, .int .u8 q2, .int .u32 r2, .int .i64 p3, .int .u8 q3, .int .u32 r3, .int .i64 p4, .int .u8 q4, .int .u32 r4, .int .i64 p5, .int .u8 q5, .int .u32 r5] 32
  have hB : Below w.heap.size w (w.alloc (.cells #[.int .i64 a0, .int .i64 a1, .int .i64 a2, .int .i64 a3, .int .i64 a4, .int .i64 a5, .int .i64 d0, .int .i64 d1, .int .i64 d2, .int .i64 d3, .int .i64 d4, .int .i64 d5, .int .i64 p0, .int .u8 q0, .int .u32 r0, .int .i64 p1, .int .u8 q1, .int .u32 r1, .int .i64 p2, .int .u8 q2, .int .u32 r2, .int .i64 p3, .int .u8 q3, .int .u32 r3, .int .i64 p4, .int .u8 q4, .int .u32 r4, .int .i64 p5, .int .u8 q5, .int .u32 r5] 32)) := by (repeat (first | with_reducible exact Below.refl _ _ | with_reducible assumption | refine Below.alloc ?_ (by (try simp); try omega) _ | refine Below.setCell ?_ (by (try simp); try omega) _ | refine below_drewN ?_ _ | refine Below.drew ?_ | (with_reducible refine Below.trans ?_ (Below.mono (by assumption) (by (try simp); try omega)))))
  go_enter Tryz.func5, Tryz.ntmps5
  go_wp2_with fail
  generalize (w.alloc (.cells #[.int .i64 a0, .int .i64 a1, .int .i64 a2, .int .i64 a3, .int .i64 a4, .int .i64 a5, .int .i64 d0, .int .i64 d1, .int .i64 d2, .int .i64 d3, .int .i64 d4, .int .i64 d5, .int .i64 p0, .int .u8 q0, .int .u32 r0, .int .i64 p1, .int .u8 q1, .int .u32 r1, .int .i64 p2, .int .u8 q2, .int .u32 r2, .int .i64 p3, .int .u8 q3, .int .u32 r3, .int .i64 p4, .int .u8 q4, .int .u32 r4, .int .i64 p5, .int .u8 q5, .int .u32 r5] 32)) = v0 at *
  generalize hn : w.heap.size = n at *
  go_at_call 6
  refine (works_true _).mono ?_
  rintro r u1 ⟨rfl, hb⟩
  replace b0_ := b0_.keep hb
  replace hB := hB.trans (hb.mono (by have := hB.size; omega))
  clear hb
  go_wp2_with (refine wpList_load_row rfl _ _ rfl n (by rfl) _ _ _ _ b0_ Tryz.underlying32 rfl (by kernel_rfl) ?_)
  go_at_call 7
  refine (hP _).mono ?_
  rintro r u2 ⟨g, rfl, G, hb⟩
  replace b0_ := b0_.keep hb
  replace hB := hB.trans (hb.mono (by have := hB.size; omega))
  clear hb hP b0_
  generalize (.agg #[.int .i64 a0, .int .i64 a1, .int .i64 a2, .int .i64 a3, .int .i64 a4, .int .i64 a5, .int .i64 d0, .int .i64 d1, .int .i64 d2, .int .i64 d3, .int .i64 d4, .int .i64 d5, .int .i64 p0, .int .u8 q0, .int .u32 r0, .int .i64 p1, .int .u8 q1, .int .u32 r1, .int .i64 p2, .int .u8 q2, .int .u32 r2, .int .i64 p3, .int .u8 q3, .int .u32 r3, .int .i64 p4, .int .u8 q4, .int .u32 r4, .int .i64 p5, .int .u8 q5, .int .u32 r5] : Value) = va at *
  have hcs : ∀ k : Int, 0 ≤ k → k < 4 → ∃ e0 e1 e2 e3 e4 e5 f0 f1 f2 f3 f4 f5 : Int, (#[.int .i64 a0, .int .i64 a1, .int .i64 a2, .int .i64 a3, .int .i64 a4, .int .i64 a5, .int .i64 d0, .int .i64 d1, .int .i64 d2, .int .i64 d3, .int .i64 d4, .int .i64 d5, .int .i64 x0, .int .i64 x1, .int .i64 x2, .int .i64 x3, .int .i64 x4, .int .i64 x5, .int .i64 y0, .int .i64 y1, .int .i64 y2, .int .i64 y3, .int .i64 y4, .int .i64 y5, .int .i64 s0, .int .i64 s1, .int .i64 s2, .int .i64 s3, .int .i64 s4, .int .i64 s5, .int .i64 y0, .int .i64 y1, .int .i64 y2, .int .i64 y3, .int .i64 y4, .int .i64 y5, .int .i64 s0, .int .i64 s1, .int .i64 s2, .int .i64 s3, .int .i64 s4, .int .i64 s5, .int .i64 d0, .int .i64 d1, .int .i64 d2, .int .i64 d3, .int .i64 d4, .int .i64 d5] : Array Value)[k.toNat * 12]? = some (.int .i64 e0) ∧ (#[.int .i64 a0, .int .i64 a1, .int .i64 a2, .int .i64 a3, .int .i64 a4, .int .i64 a5, .int .i64 d0, .int .i64 d1, .int .i64 d2, .int .i64 d3, .int .i64 d4, .int .i64 d5, .int .i64 x0, .int .i64 x1, .int .i64 x2, .int .i64 x3, .int .i64 x4, .int .i64 x5, .int .i64 y0, .int .i64 y1, .int .i64 y2, .int .i64 y3, .int .i64 y4, .int .i64 y5, .int .i64 s0, .int .i64 s1, .int .i64 s2, .int .i64 s3, .int .i64 s4, .int .i64 s5, .int .i64 y0, .int .i64 y1, .int .i64 y2, .int .i64 y3, .int .i64 y4, .int .i64 y5, .int .i64 s0, .int .i64 s1, .int .i64 s2, .int .i64 s3, .int .i64 s4, .int .i64 s5, .int .i64 d0, .int .i64 d1, .int .i64 d2, .int .i64 d3, .int .i64 d4, .int .i64 d5] : Array Value)[k.toNat * 12 + 1]? = some (.int .i64 e1) ∧ (#[.int .i64 a0, .int .i64 a1, .int .i64 a2, .int .i64 a3, .int .i64 a4, .int .i64 a5, .int .i64 d0, .int .i64 d1, .int .i64 d2, .int .i64 d3, .int .i64 d4, .int .i64 d5, .int .i64 x0, .int .i64 x1, .int .i64 x2, .int .i64 x3, .int .i64 x4, .int .i64 x5, .int .i64 y0, .int .i64 y1, .int .i64 y2, .int .i64 y3, .int .i64 y4, .int .i64 y5, .int .i64 s0, .int .i64 s1, .int .i64 s2, .int .i64 s3, .int .i64 s4, .int .i64 s5, .int .i64 y0, .int .i64 y1, .int .i64 y2, .int .i64 y3, .int .i64 y4, .int .i64 y5, .int .i64 s0, .int .i64 s1, .int .i64 s2, .int .i64 s3, .int .i64 s4, .int .i64 s5, .int .i64 d0, .int .i64 d1, .int .i64 d2, .int .i64 d3, .int .i64 d4, .int .i64 d5] : Array Value)[k.toNat * 12 + 2]? = some (.int .i64 e2) ∧ (#[.int .i64 a0, .int .i64 a1, .int .i64 a2, .int .i64 a3, .int .i64 a4, .int .i64 a5, .int .i64 d0, .int .i64 d1, .int .i64 d2, .int .i64 d3, .int .i64 d4, .int .i64 d5, .int .i64 x0, .int .i64 x1, .int .i64 x2, .int .i64 x3, .int .i64 x4, .int .i64 x5, .int .i64 y0, .int .i64 y1, .int .i64 y2, .int .i64 y3, .int .i64 y4, .int .i64 y5, .int .i64 s0, .int .i64 s1, .int .i64 s2, .int .i64 s3, .int .i64 s4, .int .i64 s5, .int .i64 y0, .int .i64 y1, .int .i64 y2, .int .i64 y3, .int .i64 y4, .int .i64 y5, .int .i64 s0, .int .i64 s1, .int .i64 s2, .int .i64 s3, .int .i64 s4, .int .i64 s5, .int .i64 d0, .int .i64 d1, .int .i64 d2, .int .i64 d3, .int .i64 d4, .int .i64 d5] : Array Value)[k.toNat * 12 + 3]? = some (.int .i64 e3) ∧ (#[.int .i64 a0, .int .i64 a1, .int .i64 a2, .int .i64 a3, .int .i64 a4, .int .i64 a5, .int .i64 d0, .int .i64 d1, .int .i64 d2, .int .i64 d3, .int .i64 d4, .int .i64 d5, .int .i64 x0, .int .i64 x1, .int .i64 x2, .int .i64 x3, .int .i64 x4, .int .i64 x5, .int .i64 y0, .int .i64 y1, .int .i64 y2, .int .i64 y3, .int .i64 y4, .int .i64 y5, .int .i64 s0, .int .i64 s1, .int .i64 s2, .int .i64 s3, .int .i64 s4, .int .i64 s5, .int .i64 y0, .int .i64 y1, .int .i64 y2, .int .i64 y3, .int .i64 y4, .int .i64 y5, .int .i64 s0, .int .i64 s1, .int .i64 s2, .int .i64 s3, .int .i64 s4, .int .i64 s5, .int .i64 d0, .int .i64 d1, .int .i64 d2, .int .i64 d3, .int .i64 d4, .int .i64 d5] : Array Value)[k.toNat * 12 + 4]? = some (.int .i64 e4) ∧ (#[.int .i64 a0, .int .i64 a1, .int .i64 a2, .int .i64 a3, .int .i64 a4, .int .i64 a5, .int .i64 d0, .int .i64 d1, .int .i64 d2, .int .i64 d3, .int .i64 d4, .int .i64 d5, .int .i64 x0, .int .i64 x1, .int .i64 x2, .int .i64 x3, .int .i64 x4, .int .i64 x5, .int .i64 y0, .int .i64 y1, .int .i64 y2, .int .i64 y3, .int .i64 y4, .int .i64 y5, .int .i64 s0, .int .i64 s1, .int .i64 s2, .int .i64 s3, .int .i64 s4, .int .i64 s5, .int .i64 y0, .int .i64 y1, .int .i64 y2, .int .i64 y3, .int .i64 y4, .int .i64 y5, .int .i64 s0, .int .i64 s1, .int .i64 s2, .int .i64 s3, .int .i64 s4, .int .i64 s5, .int .i64 d0, .int .i64 d1, .int .i64 d2, .int .i64 d3, .int .i64 d4, .int .i64 d5] : Array Value)[k.toNat * 12 + 5]? = some (.int .i64 e5) ∧ (#[.int .i64 a0, .int .i64 a1, .int .i64 a2, .int .i64 a3, .int .i64 a4, .int .i64 a5, .int .i64 d0, .int .i64 d1, .int .i64 d2, .int .i64 d3, .int .i64 d4, .int .i64 d5, .int .i64 x0, .int .i64 x1, .int .i64 x2, .int .i64 x3, .int .i64 x4, .int .i64 x5, .int .i64 y0, .int .i64 y1, .int .i64 y2, .int .i64 y3, .int .i64 y4, .int .i64 y5, .int .i64 s0, .int .i64 s1, .int .i64 s2, .int .i64 s3, .int .i64 s4, .int .i64 s5, .int .i64 y0, .int .i64 y1, .int .i64 y2, .int .i64 y3, .int .i64 y4, .int .i64 y5, .int .i64 s0, .int .i64 s1, .int .i64 s2, .int .i64 s3, .int .i64 s4, .int .i64 s5, .int .i64 d0, .int .i64 d1, .int .i64 d2, .int .i64 d3, .int .i64 d4, .int .i64 d5] : Array Value)[k.toNat * 12 + 6]? = some (.int .i64 f0) ∧ (#[.int .i64 a0, .int .i64 a1, .int .i64 a2, .int .i64 a3, .int .i64 a4, .int .i64 a5, .int .i64 d0, .int .i64 d1, .int .i64 d2, .int .i64 d3, .int .i64 d4, .int .i64 d5, .int .i64 x0, .int .i64 x1, .int .i64 x2, .int .i64 x3, .int .i64 x4, .int .i64 x5, .int .i64 y0, .int .i64 y1, .int .i64 y2, .int .i64 y3, .int .i64 y4, .int .i64 y5, .int .i64 s0, .int .i64 s1, .int .i64 s2, .int .i64 s3, .int .i64 s4, .int .i64 s5, .int .i64 y0, .int .i64 y1, .int .i64 y2, .int .i64 y3, .int .i64 y4, .int .i64 y5, .int .i64 s0, .int .i64 s1, .int .i64 s2, .int .i64 s3, .int .i64 s4, .int .i64 s5, .int .i64 d0, .int .i64 d1, .int .i64 d2, .int .i64 d3, .int .i64 d4, .int .i64 d5] : Array Value)[k.toNat * 12 + 7]? = some (.int .i64 f1) ∧ (#[.int .i64 a0, .int .i64 a1, .int .i64 a2, .int .i64 a3, .int .i64 a4, .int .i64 a5, .int .i64 d0, .int .i64 d1, .int .i64 d2, .int .i64 d3, .int .i64 d4, .int .i64 d5, .int .i64 x0, .int .i64 x1, .int .i64 x2, .int .i64 x3, .int .i64 x4, .int .i64 x5, .int .i64 y0, .int .i64 y1, .int .i64 y2, .int .i64 y3, .int .i64 y4, .int .i64 y5, .int .i64 s0, .int .i64 s1, .int .i64 s2, .int .i64 s3, .int .i64 s4, .int .i64 s5, .int .i64 y0, .int .i64 y1, .int .i64 y2, .int .i64 y3, .int .i64 y4, .int .i64 y5, .int .i64 s0, .int .i64 s1, .int .i64 s2, .int .i64 s3, .int .i64 s4, .int .i64 s5, .int .i64 d0, .int .i64 d1, .int .i64 d2, .int .i64 d3, .int .i64 d4, .int .i64 d5] : Array Value)[k.toNat * 12 + 8]? = some (.int .i64 f2) ∧ (#[.int .i64 a0, .int .i64 a1, .int .i64 a2, .int .i64 a3, .int .i64 a4, .int .i64 a5, .int .i64 d0, .int .i64 d1, .int .i64 d2, .int .i64 d3, .int .i64 d4, .int .i64 d5, .int .i64 x0, .int .i64 x1, .int .i64 x2, .int .i64 x3, .int .i64 x4, .int .i64 x5, .int .i64 y0, .int .i64 y1, .int .i64 y2, .int .i64 y3, .int .i64 y4, .int .i64 y5, .int .i64 s0, .int .i64 s1, .int .i64 s2, .int .i64 s3, .int .i64 s4, .int .i64 s5, .int .i64 y0, .int .i64 y1, .int .i64 y2, .int .i64 y3, .int .i64 y4, .int .i64 y5, .int .i64 s0, .int .i64 s1, .int .i64 s2, .int .i64 s3, .int .i64 s4, .int .i64 s5, .int .i64 d0, .int .i64 d1, .int .i64 d2, .int .i64 d3, .int .i64 d4, .int .i64 d5] : Array Value)[k.toNat * 12 + 9]? = some (.int .i64 f3) ∧ (#[.int .i64 a0, .int .i64 a1, .int .i64 a2, .int .i64 a3, .int .i64 a4, .int .i64 a5, .int .i64 d0, .int .i64 d1, .int .i64 d2, .int .i64 d3, .int .i64 d4, .int .i64 d5, .int .i64 x0, .int .i64 x1, .int .i64 x2, .int .i64 x3, .int .i64 x4, .int .i64 x5, .int .i64 y0, .int .i64 y1, .int .i64 y2, .int .i64 y3, .int .i64 y4, .int .i64 y5, .int .i64 s0, .int .i64 s1, .int .i64 s2, .int .i64 s3, .int .i64 s4, .int .i64 s5, .int .i64 y0, .int .i64 y1, .int .i64 y2, .int .i64 y3, .int .i64 y4, .int .i64 y5, .int .i64 s0, .int .i64 s1, .int .i64 s2, .int .i64 s3, .int .i64 s4, .int .i64 s5, .int .i64 d0, .int .i64 d1, .int .i64 d2, .int .i64 d3, .int .i64 d4, .int .i64 d5] : Array Value)[k.toNat * 12 + 10]? = some (.int .i64 f4) ∧ (#[.int .i64 a0, .int .i64 a1, .int .i64 a2, .int .i64 a3, .int .i64 a4, .int .i64 a5, .int .i64 d0, .int .i64 d1, .int .i64 d2, .int .i64 d3, .int .i64 d4, .int .i64 d5, .int .i64 x0, .int .i64 x1, .int .i64 x2, .int .i64 x3, .int .i64 x4, .int .i64 x5, .int .i64 y0, .int .i64 y1, .int .i64 y2, .int .i64 y3, .int .i64 y4, .int .i64 y5, .int .i64 s0, .int .i64 s1, .int .i64 s2, .int .i64 s3, .int .i64 s4, .int .i64 s5, .int .i64 y0, .int .i64 y1, .int .i64 y2, .int .i64 y3, .int .i64 y4, .int .i64 y5, .int .i64 s0, .int .i64 s1, .int .i64 s2, .int .i64 s3, .int .i64 s4, .int .i64 s5, .int .i64 d0, .int .i64 d1, .int .i64 d2, .int .i64 d3, .int .i64 d4, .int .i64 d5] : Array Value)[k.toNat * 12 + 11]? = some (.int .i64 f5) := by
    intro k h0 h1
    obtain rfl | rfl | rfl | rfl : k = 0 ∨ k = 1 ∨ k = 2 ∨ k = 3 := by omega
    · exact ⟨a0, a1, a2, a3, a4, a5, d0, d1, d2, d3, d4, d5, rfl, rfl, rfl, rfl, rfl, rfl, rfl, rfl, rfl, rfl, rfl, rfl⟩
    · exact ⟨x0, x1, x2, x3, x4, x5, y0, y1, y2, y3, y4, y5, rfl, rfl, rfl, rfl, rfl, rfl, rfl, rfl, rfl, rfl, rfl, rfl⟩
    · exact ⟨s0, s1, s2, s3, s4, s5, y0, y1, y2, y3, y4, y5, rfl, rfl, rfl, rfl, rfl, rfl, rfl, rfl, rfl, rfl, rfl, rfl⟩
    · exact ⟨s0, s1, s2, s3, s4, s5, d0, d1, d2, d3, d4, d5, rfl, rfl, rfl, rfl, rfl, rfl, rfl, rfl, rfl, rfl, rfl, rfl⟩
  generalize (#[.int .i64 a0, .int .i64 a1, .int .i64 a2, .int .i64 a3, .int .i64 a4, .int .i64 a5, .int .i64 d0, .int .i64 d1, .int .i64 d2, .int .i64 d3, .int .i64 d4, .int .i64 d5, .int .i64 x0, .int .i64 x1, .int .i64 x2, .int .i64 x3, .int .i64 x4, .int .i64 x5, .int .i64 y0, .int .i64 y1, .int .i64 y2, .int .i64 y3, .int .i64 y4, .int .i64 y5, .int .i64 s0, .int .i64 s1, .int .i64 s2, .int .i64 s3, .int .i64 s4, .int .i64 s5, .int .i64 y0, .int .i64 y1, .int .i64 y2, .int .i64 y3, .int .i64 y4, .int .i64 y5, .int .i64 s0, .int .i64 s1, .int .i64 s2, .int .i64 s3, .int .i64 s4, .int .i64 s5, .int .i64 d0, .int .i64 d1, .int .i64 d2, .int .i64 d3, .int .i64 d4, .int .i64 d5] : Array Value) = cs at *
  replace hcs := Lib.hid hcs
  clear hx hy hs q00 q01 r00 r01 q10 q11 r10 r11 q20 q21 r20 r21 q30 q31 r30 r31 q40 q41 r40 r41 q50 q51 r50 r51
  go_wp2_with fail
  go_loopw [18] (fun vi wr => ∃ k : Int, 0 ≤ k ∧ k ≤ 4 ∧ vi = .int .i64 k ∧ Below n w wr ∧ Bn wr g cs 36) (fun vi _ => 4 - (intOf vi).toNat)
  case atStart => exact ⟨0, by omega, by omega, rfl, hB, G⟩
  case round =>
    clear hB G
    obtain ⟨k, k0, k2, rfl, hB, G⟩ := hrel
    by_cases hk : k < 4
    · obtain ⟨e0, e1, e2, e3, e4, e5, f0, f1, f2, f3, f4, f5, d0_, d1_, d2_, d3_, d4_, d5_, d6_, d7_, d8_, d9_, d10_, d11_⟩ := hcs.out k k0 hk
      have c0 : wr.cell? ⟨g, k.toNat * 12, none⟩ = some (.int .i64 e0) := G.cell _ _ d0_
      have c1 : wr.cell? ⟨g, k.toNat * 12 + 1, none⟩ = some (.int .i64 e1) := G.cell _ _ d1_
      have c2 : wr.cell? ⟨g, k.toNat * 12 + 2, none⟩ = some (.int .i64 e2) := G.cell _ _ d2_
      have c3 : wr.cell? ⟨g, k.toNat * 12 + 3, none⟩ = some (.int .i64 e3) := G.cell _ _ d3_
      have c4 : wr.cell? ⟨g, k.toNat * 12 + 4, none⟩ = some (.int .i64 e4) := G.cell _ _ d4_
      have c5 : wr.cell? ⟨g, k.toNat * 12 + 5, none⟩ = some (.int .i64 e5) := G.cell _ _ d5_
      have c6 : wr.cell? ⟨g, k.toNat * 12 + 6, none⟩ = some (.int .i64 f0) := G.cell _ _ d6_
      have c7 : wr.cell? ⟨g, k.toNat * 12 + 7, none⟩ = some (.int .i64 f1) := G.cell _ _ d7_
      have c8 : wr.cell? ⟨g, k.toNat * 12 + 8, none⟩ = some (.int .i64 f2) := G.cell _ _ d8_
      have c9 : wr.cell? ⟨g, k.toNat * 12 + 9, none⟩ = some (.int .i64 f3) := G.cell _ _ d9_
      have c10 : wr.cell? ⟨g, k.toNat * 12 + 10, none⟩ = some (.int .i64 f4) := G.cell _ _ d10_
      have c11 : wr.cell? ⟨g, k.toNat * 12 + 11, none⟩ = some (.int .i64 f5) := G.cell _ _ d11_
      clear d0_ d1_ d2_ d3_ d4_ d5_ d6_ d7_ d8_ d9_ d10_ d11_
      have h1 := fun w => pNorm_any e0 e1 e2 e3 e4 e5 w
      have h2 := fun w => rNorm_any e0 e1 e2 e3 e4 e5 w
      have h3 := fun w => pUnit_any e0 e1 e2 e3 e4 e5 w
      have h4 := fun w => rUnit_any e0 e1 e2 e3 e4 e5 w
      generalize vNormP e0 e1 e2 e3 e4 e5 = T at *
      generalize vUnitR e0 e1 e2 e3 e4 e5 = M at *
      have qM := fun w => eqV_self M.x0 M.x1 M.y0 M.y1 M.z0 M.z1 w
      have bGx := G
      clear G
      have lGx := bGx.lt
      have hsz : n ≤ wr.heap.size := by have := hB.size; omega
      have bP := Bn.new wr #[.int .i64 e0, .int .i64 e1, .int .i64 e2, .int .i64 e3, .int .i64 e4, .int .i64 e5, .int .i64 f0, .int .i64 f1, .int .i64 f2, .int .i64 f3, .int .i64 f4, .int .i64 f5] 36
      replace bGx := bGx.alloc (.cells #[.int .i64 e0, .int .i64 e1, .int .i64 e2, .int .i64 e3, .int .i64 e4, .int .i64 e5, .int .i64 f0, .int .i64 f1, .int .i64 f2, .int .i64 f3, .int .i64 f4, .int .i64 f5] 36)
      replace hB := hB.alloc hsz (.cells #[.int .i64 e0, .int .i64 e1, .int .i64 e2, .int .i64 e3, .int .i64 e4, .int .i64 e5, .int .i64 f0, .int .i64 f1, .int .i64 f2, .int .i64 f3, .int .i64 f4, .int .i64 f5] 36)
      have cP0 : (wr.alloc (.cells #[.int .i64 e0, .int .i64 e1, .int .i64 e2, .int .i64 e3, .int .i64 e4, .int .i64 e5, .int .i64 f0, .int .i64 f1, .int .i64 f2, .int .i64 f3, .int .i64 f4, .int .i64 f5] 36)).cell? ⟨wr.heap.size, 0, none⟩ = some (.int .i64 e0) := bP.cell 0 _ rfl
      have cP1 : (wr.alloc (.cells #[.int .i64 e0, .int .i64 e1, .int .i64 e2, .int .i64 e3, .int .i64 e4, .int .i64 e5, .int .i64 f0, .int .i64 f1, .int .i64 f2, .int .i64 f3, .int .i64 f4, .int .i64 f5] 36)).cell? ⟨wr.heap.size, 1, none⟩ = some (.int .i64 e1) := bP.cell 1 _ rfl
      have cP2 : (wr.alloc (.cells #[.int .i64 e0, .int .i64 e1, .int .i64 e2, .int .i64 e3, .int .i64 e4, .int .i64 e5, .int .i64 f0, .int .i64 f1, .int .i64 f2, .int .i64 f3, .int .i64 f4, .int .i64 f5] 36)).cell? ⟨wr.heap.size, 2, none⟩ = some (.int .i64 e2) := bP.cell 2 _ rfl
      have cP3 : (wr.alloc (.cells #[.int .i64 e0, .int .i64 e1, .int .i64 e2, .int .i64 e3, .int .i64 e4, .int .i64 e5, .int .i64 f0, .int .i64 f1, .int .i64 f2, .int .i64 f3, .int .i64 f4, .int .i64 f5] 36)).cell? ⟨wr.heap.size, 3, none⟩ = some (.int .i64 e3) := bP.cell 3 _ rfl
      have cP4 : (wr.alloc (.cells #[.int .i64 e0, .int .i64 e1, .int .i64 e2, .int .i64 e3, .int .i64 e4, .int .i64 e5, .int .i64 f0, .int .i64 f1, .int .i64 f2, .int .i64 f3, .int .i64 f4, .int .i64 f5] 36)).cell? ⟨wr.heap.size, 4, none⟩ = some (.int .i64 e4) := bP.cell 4 _ rfl
      have cP5 : (wr.alloc (.cells #[.int .i64 e0, .int .i64 e1, .int .i64 e2, .int .i64 e3, .int .i64 e4, .int .i64 e5, .int .i64 f0, .int .i64 f1, .int .i64 f2, .int .i64 f3, .int .i64 f4, .int .i64 f5] 36)).cell? ⟨wr.heap.size, 5, none⟩ = some (.int .i64 e5) := bP.cell 5 _ rfl
      have cP6 : (wr.alloc (.cells #[.int .i64 e0, .int .i64 e1, .int .i64 e2, .int .i64 e3, .int .i64 e4, .int .i64 e5, .int .i64 f0, .int .i64 f1, .int .i64 f2, .int .i64 f3, .int .i64 f4, .int .i64 f5] 36)).cell? ⟨wr.heap.size, 6, none⟩ = some (.int .i64 f0) := bP.cell 6 _ rfl
      have cP7 : (wr.alloc (.cells #[.int .i64 e0, .int .i64 e1, .int .i64 e2, .int .i64 e3, .int .i64 e4, .int .i64 e5, .int .i64 f0, .int .i64 f1, .int .i64 f2, .int .i64 f3, .int .i64 f4, .int .i64 f5] 36)).cell? ⟨wr.heap.size, 7, none⟩ = some (.int .i64 f1) := bP.cell 7 _ rfl
      have cP8 : (wr.alloc (.cells #[.int .i64 e0, .int .i64 e1, .int .i64 e2, .int .i64 e3, .int .i64 e4, .int .i64 e5, .int .i64 f0, .int .i64 f1, .int .i64 f2, .int .i64 f3, .int .i64 f4, .int .i64 f5] 36)).cell? ⟨wr.heap.size, 8, none⟩ = some (.int .i64 f2) := bP.cell 8 _ rfl
      have cP9 : (wr.alloc (.cells #[.int .i64 e0, .int .i64 e1, .int .i64 e2, .int .i64 e3, .int .i64 e4, .int .i64 e5, .int .i64 f0, .int .i64 f1, .int .i64 f2, .int .i64 f3, .int .i64 f4, .int .i64 f5] 36)).cell? ⟨wr.heap.size, 9, none⟩ = some (.int .i64 f3) := bP.cell 9 _ rfl
      have cP10 : (wr.alloc (.cells #[.int .i64 e0, .int .i64 e1, .int .i64 e2, .int .i64 e3, .int .i64 e4, .int .i64 e5, .int .i64 f0, .int .i64 f1, .int .i64 f2, .int .i64 f3, .int .i64 f4, .int .i64 f5] 36)).cell? ⟨wr.heap.size, 10, none⟩ = some (.int .i64 f4) := bP.cell 10 _ rfl
      have cP11 : (wr.alloc (.cells #[.int .i64 e0, .int .i64 e1, .int .i64 e2, .int .i64 e3, .int .i64 e4, .int .i64 e5, .int .i64 f0, .int .i64 f1, .int .i64 f2, .int .i64 f3, .int .i64 f4, .int .i64 f5] 36)).cell? ⟨wr.heap.size, 11, none⟩ = some (.int .i64 f5) := bP.cell 11 _ rfl
      have kP := bP.lt
      go_wp2_with fail
      go_at_call 23
      refine (h1 _).mono ?_
      rintro r u1 ⟨rfl, hb⟩
      clear c0 c1 c2 c3 c4 c5 c6 c7 c8 c9 c10 c11
      replace bGx := bGx.keep hb
      replace bP := bP.keep hb
      replace hB := hB.trans (hb.mono (by have := hB.size; omega))
      clear hb cP0 cP1 cP2 cP3 cP4 cP5 cP6 cP7 cP8 cP9 cP10 cP11 kP
      generalize wr.heap.size = gP at *
      clear hsz
      have lGx := bGx.lt
      have lP := bP.lt
      have hsz : n ≤ u1.heap.size := by have := hB.size; omega
      have bS := Bn.new u1 #[.int .i64 T.1, .int .i64 T.2.1] 23
      replace bGx := bGx.alloc (.cells #[.int .i64 T.1, .int .i64 T.2.1] 23)
      replace bP := bP.alloc (.cells #[.int .i64 T.1, .int .i64 T.2.1] 23)
      replace hB := hB.alloc hsz (.cells #[.int .i64 T.1, .int .i64 T.2.1] 23)
      have cP0 : (u1.alloc (.cells #[.int .i64 T.1, .int .i64 T.2.1] 23)).cell? ⟨gP, 0, none⟩ = some (.int .i64 e0) := bP.cell 0 _ rfl
      have cP1 : (u1.alloc (.cells #[.int .i64 T.1, .int .i64 T.2.1] 23)).cell? ⟨gP, 1, none⟩ = some (.int .i64 e1) := bP.cell 1 _ rfl
      have cP2 : (u1.alloc (.cells #[.int .i64 T.1, .int .i64 T.2.1] 23)).cell? ⟨gP, 2, none⟩ = some (.int .i64 e2) := bP.cell 2 _ rfl
      have cP3 : (u1.alloc (.cells #[.int .i64 T.1, .int .i64 T.2.1] 23)).cell? ⟨gP, 3, none⟩ = some (.int .i64 e3) := bP.cell 3 _ rfl
      have cP4 : (u1.alloc (.cells #[.int .i64 T.1, .int .i64 T.2.1] 23)).cell? ⟨gP, 4, none⟩ = some (.int .i64 e4) := bP.cell 4 _ rfl
      have cP5 : (u1.alloc (.cells #[.int .i64 T.1, .int .i64 T.2.1] 23)).cell? ⟨gP, 5, none⟩ = some (.int .i64 e5) := bP.cell 5 _ rfl
      have cP6 : (u1.alloc (.cells #[.int .i64 T.1, .int .i64 T.2.1] 23)).cell? ⟨gP, 6, none⟩ = some (.int .i64 f0) := bP.cell 6 _ rfl
      have cP7 : (u1.alloc (.cells #[.int .i64 T.1, .int .i64 T.2.1] 23)).cell? ⟨gP, 7, none⟩ = some (.int .i64 f1) := bP.cell 7 _ rfl
      have cP8 : (u1.alloc (.cells #[.int .i64 T.1, .int .i64 T.2.1] 23)).cell? ⟨gP, 8, none⟩ = some (.int .i64 f2) := bP.cell 8 _ rfl
      have cP9 : (u1.alloc (.cells #[.int .i64 T.1, .int .i64 T.2.1] 23)).cell? ⟨gP, 9, none⟩ = some (.int .i64 f3) := bP.cell 9 _ rfl
      have cP10 : (u1.alloc (.cells #[.int .i64 T.1, .int .i64 T.2.1] 23)).cell? ⟨gP, 10, none⟩ = some (.int .i64 f4) := bP.cell 10 _ rfl
      have cP11 : (u1.alloc (.cells #[.int .i64 T.1, .int .i64 T.2.1] 23)).cell? ⟨gP, 11, none⟩ = some (.int .i64 f5) := bP.cell 11 _ rfl
      have kP := bP.lt
      go_wp2_with fail
      go_at_call 24
      refine (h2 _).mono ?_
      rintro r u2 ⟨rfl, hb⟩
      replace bGx := bGx.keep hb
      replace bP := bP.keep hb
      replace bS := bS.keep hb
      replace hB := hB.trans (hb.mono (by have := hB.size; omega))
      clear hb cP0 cP1 cP2 cP3 cP4 cP5 cP6 cP7 cP8 cP9 cP10 cP11 kP
      generalize u1.heap.size = gS at *
      clear hsz
      have lGx := bGx.lt
      have lP := bP.lt
      have lS := bS.lt
      have hsz : n ≤ u2.heap.size := by have := hB.size; omega
      have bR := Bn.new u2 #[.int .i64 T.1, .int .i64 T.2.1] 23
      replace bGx := bGx.alloc (.cells #[.int .i64 T.1, .int .i64 T.2.1] 23)
      replace bP := bP.alloc (.cells #[.int .i64 T.1, .int .i64 T.2.1] 23)
      replace bS := bS.alloc (.cells #[.int .i64 T.1, .int .i64 T.2.1] 23)
      replace hB := hB.alloc hsz (.cells #[.int .i64 T.1, .int .i64 T.2.1] 23)
      have cP0 : (u2.alloc (.cells #[.int .i64 T.1, .int .i64 T.2.1] 23)).cell? ⟨gP, 0, none⟩ = some (.int .i64 e0) := bP.cell 0 _ rfl
      have cP1 : (u2.alloc (.cells #[.int .i64 T.1, .int .i64 T.2.1] 23)).cell? ⟨gP, 1, none⟩ = some (.int .i64 e1) := bP.cell 1 _ rfl
      have cP2 : (u2.alloc (.cells #[.int .i64 T.1, .int .i64 T.2.1] 23)).cell? ⟨gP, 2, none⟩ = some (.int .i64 e2) := bP.cell 2 _ rfl
      have cP3 : (u2.alloc (.cells #[.int .i64 T.1, .int .i64 T.2.1] 23)).cell? ⟨gP, 3, none⟩ = some (.int .i64 e3) := bP.cell 3 _ rfl
      have cP4 : (u2.alloc (.cells #[.int .i64 T.1, .int .i64 T.2.1] 23)).cell? ⟨gP, 4, none⟩ = some (.int .i64 e4) := bP.cell 4 _ rfl
      have cP5 : (u2.alloc (.cells #[.int .i64 T.1, .int .i64 T.2.1] 23)).cell? ⟨gP, 5, none⟩ = some (.int .i64 e5) := bP.cell 5 _ rfl
      have cP6 : (u2.alloc (.cells #[.int .i64 T.1, .int .i64 T.2.1] 23)).cell? ⟨gP, 6, none⟩ = some (.int .i64 f0) := bP.cell 6 _ rfl
      have cP7 : (u2.alloc (.cells #[.int .i64 T.1, .int .i64 T.2.1] 23)).cell? ⟨gP, 7, none⟩ = some (.int .i64 f1) := bP.cell 7 _ rfl
      have cP8 : (u2.alloc (.cells #[.int .i64 T.1, .int .i64 T.2.1] 23)).cell? ⟨gP, 8, none⟩ = some (.int .i64 f2) := bP.cell 8 _ rfl
      have cP9 : (u2.alloc (.cells #[.int .i64 T.1, .int .i64 T.2.1] 23)).cell? ⟨gP, 9, none⟩ = some (.int .i64 f3) := bP.cell 9 _ rfl
      have cP10 : (u2.alloc (.cells #[.int .i64 T.1, .int .i64 T.2.1] 23)).cell? ⟨gP, 10, none⟩ = some (.int .i64 f4) := bP.cell 10 _ rfl
      have cP11 : (u2.alloc (.cells #[.int .i64 T.1, .int .i64 T.2.1] 23)).cell? ⟨gP, 11, none⟩ = some (.int .i64 f5) := bP.cell 11 _ rfl
      have kP := bP.lt
      go_wp2_with fail
      go_at_call 25
      refine (h3 _).mono ?_
      rintro r u3 ⟨rfl, hb⟩
      replace bGx := bGx.keep hb
      replace bP := bP.keep hb
      replace bS := bS.keep hb
      replace bR := bR.keep hb
      replace hB := hB.trans (hb.mono (by have := hB.size; omega))
      clear hb cP0 cP1 cP2 cP3 cP4 cP5 cP6 cP7 cP8 cP9 cP10 cP11 kP
      generalize u2.heap.size = gR at *
      clear hsz
      have lGx := bGx.lt
      have lP := bP.lt
      have lS := bS.lt
      have lR := bR.lt
      have hsz : n ≤ u3.heap.size := by have := hB.size; omega
      have bC := Bn.new u3 #[.int .i64 M.x0, .int .i64 M.x1, .int .i64 M.y0, .int .i64 M.y1, .int .i64 M.z0, .int .i64 M.z1] 25
      replace bGx := bGx.alloc (.cells #[.int .i64 M.x0, .int .i64 M.x1, .int .i64 M.y0, .int .i64 M.y1, .int .i64 M.z0, .int .i64 M.z1] 25)
      replace bP := bP.alloc (.cells #[.int .i64 M.x0, .int .i64 M.x1, .int .i64 M.y0, .int .i64 M.y1, .int .i64 M.z0, .int .i64 M.z1] 25)
      replace bS := bS.alloc (.cells #[.int .i64 M.x0, .int .i64 M.x1, .int .i64 M.y0, .int .i64 M.y1, .int .i64 M.z0, .int .i64 M.z1] 25)
      replace bR := bR.alloc (.cells #[.int .i64 M.x0, .int .i64 M.x1, .int .i64 M.y0, .int .i64 M.y1, .int .i64 M.z0, .int .i64 M.z1] 25)
      replace hB := hB.alloc hsz (.cells #[.int .i64 M.x0, .int .i64 M.x1, .int .i64 M.y0, .int .i64 M.y1, .int .i64 M.z0, .int .i64 M.z1] 25)
      have cP0 : (u3.alloc (.cells #[.int .i64 M.x0, .int .i64 M.x1, .int .i64 M.y0, .int .i64 M.y1, .int .i64 M.z0, .int .i64 M.z1] 25)).cell? ⟨gP, 0, none⟩ = some (.int .i64 e0) := bP.cell 0 _ rfl
      have cP1 : (u3.alloc (.cells #[.int .i64 M.x0, .int .i64 M.x1, .int .i64 M.y0, .int .i64 M.y1, .int .i64 M.z0, .int .i64 M.z1] 25)).cell? ⟨gP, 1, none⟩ = some (.int .i64 e1) := bP.cell 1 _ rfl
      have cP2 : (u3.alloc (.cells #[.int .i64 M.x0, .int .i64 M.x1, .int .i64 M.y0, .int .i64 M.y1, .int .i64 M.z0, .int .i64 M.z1] 25)).cell? ⟨gP, 2, none⟩ = some (.int .i64 e2) := bP.cell 2 _ rfl
      have cP3 : (u3.alloc (.cells #[.int .i64 M.x0, .int .i64 M.x1, .int .i64 M.y0, .int .i64 M.y1, .int .i64 M.z0, .int .i64 M.z1] 25)).cell? ⟨gP, 3, none⟩ = some (.int .i64 e3) := bP.cell 3 _ rfl
      have cP4 : (u3.alloc (.cells #[.int .i64 M.x0, .int .i64 M.x1, .int .i64 M.y0, .int .i64 M.y1, .int .i64 M.z0, .int .i64 M.z1] 25)).cell? ⟨gP, 4, none⟩ = some (.int .i64 e4) := bP.cell 4 _ rfl
      have cP5 : (u3.alloc (.cells #[.int .i64 M.x0, .int .i64 M.x1, .int .i64 M.y0, .int .i64 M.y1, .int .i64 M.z0, .int .i64 M.z1] 25)).cell? ⟨gP, 5, none⟩ = some (.int .i64 e5) := bP.cell 5 _ rfl
      have cP6 : (u3.alloc (.cells #[.int .i64 M.x0, .int .i64 M.x1, .int .i64 M.y0, .int .i64 M.y1, .int .i64 M.z0, .int .i64 M.z1] 25)).cell? ⟨gP, 6, none⟩ = some (.int .i64 f0) := bP.cell 6 _ rfl
      have cP7 : (u3.alloc (.cells #[.int .i64 M.x0, .int .i64 M.x1, .int .i64 M.y0, .int .i64 M.y1, .int .i64 M.z0, .int .i64 M.z1] 25)).cell? ⟨gP, 7, none⟩ = some (.int .i64 f1) := bP.cell 7 _ rfl
      have cP8 : (u3.alloc (.cells #[.int .i64 M.x0, .int .i64 M.x1, .int .i64 M.y0, .int .i64 M.y1, .int .i64 M.z0, .int .i64 M.z1] 25)).cell? ⟨gP, 8, none⟩ = some (.int .i64 f2) := bP.cell 8 _ rfl
      have cP9 : (u3.alloc (.cells #[.int .i64 M.x0, .int .i64 M.x1, .int .i64 M.y0, .int .i64 M.y1, .int .i64 M.z0, .int .i64 M.z1] 25)).cell? ⟨gP, 9, none⟩ = some (.int .i64 f3) := bP.cell 9 _ rfl
      have cP10 : (u3.alloc (.cells #[.int .i64 M.x0, .int .i64 M.x1, .int .i64 M.y0, .int .i64 M.y1, .int .i64 M.z0, .int .i64 M.z1] 25)).cell? ⟨gP, 10, none⟩ = some (.int .i64 f4) := bP.cell 10 _ rfl
      have cP11 : (u3.alloc (.cells #[.int .i64 M.x0, .int .i64 M.x1, .int .i64 M.y0, .int .i64 M.y1, .int .i64 M.z0, .int .i64 M.z1] 25)).cell? ⟨gP, 11, none⟩ = some (.int .i64 f5) := bP.cell 11 _ rfl
      have kP := bP.lt
      go_wp2_with fail
      go_at_call 26
      refine (h4 _).mono ?_
      rintro r u4 ⟨rfl, hb⟩
      replace bGx := bGx.keep hb
      replace bP := bP.keep hb
      replace bS := bS.keep hb
      replace bR := bR.keep hb
      replace bC := bC.keep hb
      replace hB := hB.trans (hb.mono (by have := hB.size; omega))
      clear hb cP0 cP1 cP2 cP3 cP4 cP5 cP6 cP7 cP8 cP9 cP10 cP11 kP
      generalize u3.heap.size = gC at *
      clear hsz
      have lGx := bGx.lt
      have lP := bP.lt
      have lS := bS.lt
      have lR := bR.lt
      have lC := bC.lt
      have hsz : n ≤ u4.heap.size := by have := hB.size; omega
      have bD := Bn.new u4 #[.int .i64 M.x0, .int .i64 M.x1, .int .i64 M.y0, .int .i64 M.y1, .int .i64 M.z0, .int .i64 M.z1] 25
      replace bGx := bGx.alloc (.cells #[.int .i64 M.x0, .int .i64 M.x1, .int .i64 M.y0, .int .i64 M.y1, .int .i64 M.z0, .int .i64 M.z1] 25)
      replace bP := bP.alloc (.cells #[.int .i64 M.x0, .int .i64 M.x1, .int .i64 M.y0, .int .i64 M.y1, .int .i64 M.z0, .int .i64 M.z1] 25)
      replace bS := bS.alloc (.cells #[.int .i64 M.x0, .int .i64 M.x1, .int .i64 M.y0, .int .i64 M.y1, .int .i64 M.z0, .int .i64 M.z1] 25)
      replace bR := bR.alloc (.cells #[.int .i64 M.x0, .int .i64 M.x1, .int .i64 M.y0, .int .i64 M.y1, .int .i64 M.z0, .int .i64 M.z1] 25)
      replace bC := bC.alloc (.cells #[.int .i64 M.x0, .int .i64 M.x1, .int .i64 M.y0, .int .i64 M.y1, .int .i64 M.z0, .int .i64 M.z1] 25)
      replace hB := hB.alloc hsz (.cells #[.int .i64 M.x0, .int .i64 M.x1, .int .i64 M.y0, .int .i64 M.y1, .int .i64 M.z0, .int .i64 M.z1] 25)
      have cS0 : (u4.alloc (.cells #[.int .i64 M.x0, .int .i64 M.x1, .int .i64 M.y0, .int .i64 M.y1, .int .i64 M.z0, .int .i64 M.z1] 25)).cell? ⟨gS, 0, none⟩ = some (.int .i64 T.1) := bS.cell 0 _ rfl
      have cS1 : (u4.alloc (.cells #[.int .i64 M.x0, .int .i64 M.x1, .int .i64 M.y0, .int .i64 M.y1, .int .i64 M.z0, .int .i64 M.z1] 25)).cell? ⟨gS, 1, none⟩ = some (.int .i64 T.2.1) := bS.cell 1 _ rfl
      have kS := bS.lt
      have cR0 : (u4.alloc (.cells #[.int .i64 M.x0, .int .i64 M.x1, .int .i64 M.y0, .int .i64 M.y1, .int .i64 M.z0, .int .i64 M.z1] 25)).cell? ⟨gR, 0, none⟩ = some (.int .i64 T.1) := bR.cell 0 _ rfl
      have cR1 : (u4.alloc (.cells #[.int .i64 M.x0, .int .i64 M.x1, .int .i64 M.y0, .int .i64 M.y1, .int .i64 M.z0, .int .i64 M.z1] 25)).cell? ⟨gR, 1, none⟩ = some (.int .i64 T.2.1) := bR.cell 1 _ rfl
      have kR := bR.lt
      have cC0 : (u4.alloc (.cells #[.int .i64 M.x0, .int .i64 M.x1, .int .i64 M.y0, .int .i64 M.y1, .int .i64 M.z0, .int .i64 M.z1] 25)).cell? ⟨gC, 0, none⟩ = some (.int .i64 M.x0) := bC.cell 0 _ rfl
      have cC1 : (u4.alloc (.cells #[.int .i64 M.x0, .int .i64 M.x1, .int .i64 M.y0, .int .i64 M.y1, .int .i64 M.z0, .int .i64 M.z1] 25)).cell? ⟨gC, 1, none⟩ = some (.int .i64 M.x1) := bC.cell 1 _ rfl
      have cC2 : (u4.alloc (.cells #[.int .i64 M.x0, .int .i64 M.x1, .int .i64 M.y0, .int .i64 M.y1, .int .i64 M.z0, .int .i64 M.z1] 25)).cell? ⟨gC, 2, none⟩ = some (.int .i64 M.y0) := bC.cell 2 _ rfl
      have cC3 : (u4.alloc (.cells #[.int .i64 M.x0, .int .i64 M.x1, .int .i64 M.y0, .int .i64 M.y1, .int .i64 M.z0, .int .i64 M.z1] 25)).cell? ⟨gC, 3, none⟩ = some (.int .i64 M.y1) := bC.cell 3 _ rfl
      have cC4 : (u4.alloc (.cells #[.int .i64 M.x0, .int .i64 M.x1, .int .i64 M.y0, .int .i64 M.y1, .int .i64 M.z0, .int .i64 M.z1] 25)).cell? ⟨gC, 4, none⟩ = some (.int .i64 M.z0) := bC.cell 4 _ rfl
      have cC5 : (u4.alloc (.cells #[.int .i64 M.x0, .int .i64 M.x1, .int .i64 M.y0, .int .i64 M.y1, .int .i64 M.z0, .int .i64 M.z1] 25)).cell? ⟨gC, 5, none⟩ = some (.int .i64 M.z1) := bC.cell 5 _ rfl
      have kC := bC.lt
      have cD0 : (u4.alloc (.cells #[.int .i64 M.x0, .int .i64 M.x1, .int .i64 M.y0, .int .i64 M.y1, .int .i64 M.z0, .int .i64 M.z1] 25)).cell? ⟨u4.heap.size, 0, none⟩ = some (.int .i64 M.x0) := bD.cell 0 _ rfl
      have cD1 : (u4.alloc (.cells #[.int .i64 M.x0, .int .i64 M.x1, .int .i64 M.y0, .int .i64 M.y1, .int .i64 M.z0, .int .i64 M.z1] 25)).cell? ⟨u4.heap.size, 1, none⟩ = some (.int .i64 M.x1) := bD.cell 1 _ rfl
      have cD2 : (u4.alloc (.cells #[.int .i64 M.x0, .int .i64 M.x1, .int .i64 M.y0, .int .i64 M.y1, .int .i64 M.z0, .int .i64 M.z1] 25)).cell? ⟨u4.heap.size, 2, none⟩ = some (.int .i64 M.y0) := bD.cell 2 _ rfl
      have cD3 : (u4.alloc (.cells #[.int .i64 M.x0, .int .i64 M.x1, .int .i64 M.y0, .int .i64 M.y1, .int .i64 M.z0, .int .i64 M.z1] 25)).cell? ⟨u4.heap.size, 3, none⟩ = some (.int .i64 M.y1) := bD.cell 3 _ rfl
      have cD4 : (u4.alloc (.cells #[.int .i64 M.x0, .int .i64 M.x1, .int .i64 M.y0, .int .i64 M.y1, .int .i64 M.z0, .int .i64 M.z1] 25)).cell? ⟨u4.heap.size, 4, none⟩ = some (.int .i64 M.z0) := bD.cell 4 _ rfl
      have cD5 : (u4.alloc (.cells #[.int .i64 M.x0, .int .i64 M.x1, .int .i64 M.y0, .int .i64 M.y1, .int .i64 M.z0, .int .i64 M.z1] 25)).cell? ⟨u4.heap.size, 5, none⟩ = some (.int .i64 M.z1) := bD.cell 5 _ rfl
      have kD := bD.lt
      go_wp2_with fail
      go_roundw
      case rel => exact ⟨k + 1, by omega, by omega, by go_num, hB, bGx⟩
      case measure => simp [intOf]; omega
    · go_wp2
      go_ret
      subst hn
      exact ⟨rfl, hB⟩
end Go.Proofs.YtnfapdmbkpkkdaaGreat
