/-
  VecOrders: the walk.
-/
import Derived.Test.YtnfapdmbkpkkdaaVcL
import Derived.Test.YtnfapdmbkpkkdaaVcN
import Derived.Deep.RegionHeld3
namespace Go.Proofs.Ytnfapdmbkpkkdaa
open Go.RowKit

set_option maxRecDepth 100000 in
set_option maxHeartbeats 16000000 in
theorem vecOrders_true (a0 a1 a2 a3 a4 a5 d0 d1 d2 d3 d4 d5 p0 q0 r0 p1 q1 r1 p2 q2 r2 p3 q3 r3 p4 q4 r4 p5 q5 r5 : Int) (w : World) (q00 : 0 ≤ q0) (q01 : q0 ≤ 255) (r00 : 0 ≤ r0) (r01 : r0 ≤ 4294967295) (q10 : 0 ≤ q1) (q11 : q1 ≤ 255) (r10 : 0 ≤ r1) (r11 : r1 ≤ 4294967295) (q20 : 0 ≤ q2) (q21 : q2 ≤ 255) (r20 : 0 ≤ r2) (r21 : r2 ≤ 4294967295) (q30 : 0 ≤ q3) (q31 : q3 ≤ 255) (r30 : 0 ≤ r3) (r31 : r3 ≤ 4294967295) (q40 : 0 ≤ q4) (q41 : q4 ≤ 255) (r40 : 0 ≤ r4) (r41 : r4 ≤ 4294967295) (q50 : 0 ≤ q5) (q51 : q5 ≤ 255) (r50 : 0 ≤ r5) (r51 : r5 ≤ 4294967295) :
    Calls Try.prog 4 #[.agg #[.int .i64 a0, .int .i64 a1, .int .i64 a2, .int .i64 a3, .int .i64 a4, .int .i64 a5, .int .i64 d0, .int .i64 d1, .int .i64 d2, .int .i64 d3, .int .i64 d4, .int .i64 d5, .int .i64 p0, .int .u8 q0, .int .u32 r0, .int .i64 p1, .int .u8 q1, .int .u32 r1, .int .i64 p2, .int .u8 q2, .int .u32 r2, .int .i64 p3, .int .u8 q3, .int .u32 r3, .int .i64 p4, .int .u8 q4, .int .u32 r4, .int .i64 p5, .int .u8 q5, .int .u32 r5]] w fun r w' => r = .returned (.bool true) ∧ Below w.heap.size w w' := by
  obtain ⟨x0, x1, x2, x3, x4, x5, y0, y1, y2, y3, y4, y5, s0, s1, s2, s3, s4, s5, hx, hy, hs, hP⟩ := vPairs_any a0 a1 a2 a3 a4 a5 d0 d1 d2 d3 d4 d5 p0 q0 r0 p1 q1 r1 p2 q2 r2 p3 q3 r3 p4 q4 r4 p5 q5 r5 q00 q01 r00 r01 q10 q11 r10 r11 q20 q21 r20 r21 q30 q31 r30 r31 q40 q41 r40 r41 q50 q51 r50 r51
  have b0_ := Bn.new w #[.int .i64 a0, .int .i64 a1, .int .i64 a2, .int .i64 a3, .int .i64 a4, .int .i64 a5, .int .i64 d0, .int .i64 d1, .int .i64 d2, .int .i64 d3, .int .i64 d4, .int .i64 d5, .int .i64 p0, .int .u8 q0, .int .u32 r0, .int .i64 p1, .int .u8 q1, .int .u32 r1, .int .i64 p2, .int .u8 q2, .int .u32 r2, .int .i64 p3, .int .u8 q3, .int .u32 r3, .int .i64 p4, .int .u8 q4, .int .u32 r4, .int .i64 p5, .int .u8 q5, .int .u32 r5] 32
  have hB : Below w.heap.size w (w.alloc (.cells #[.int .i64 a0, .int .i64 a1, .int .i64 a2, .int .i64 a3, .int .i64 a4, .int .i64 a5, .int .i64 d0, .int .i64 d1, .int .i64 d2, .int .i64 d3, .int .i64 d4, .int .i64 d5, .int .i64 p0, .int .u8 q0, .int .u32 r0, .int .i64 p1, .int .u8 q1, .int .u32 r1, .int .i64 p2, .int .u8 q2, .int .u32 r2, .int .i64 p3, .int .u8 q3, .int .u32 r3, .int .i64 p4, .int .u8 q4, .int .u32 r4, .int .i64 p5, .int .u8 q5, .int .u32 r5] 32)) := by (repeat (first | with_reducible exact Below.refl _ _ | with_reducible assumption | refine Below.alloc ?_ (by (try simp); try omega) _ | refine Below.setCell ?_ (by (try simp); try omega) _ | refine below_drewN ?_ _ | refine Below.drew ?_ | (with_reducible refine Below.trans ?_ (Below.mono (by assumption) (by (try simp); try omega)))))
  go_enter Try.func4, Try.ntmps4
  go_wp2_with fail
  generalize (w.alloc (.cells #[.int .i64 a0, .int .i64 a1, .int .i64 a2, .int .i64 a3, .int .i64 a4, .int .i64 a5, .int .i64 d0, .int .i64 d1, .int .i64 d2, .int .i64 d3, .int .i64 d4, .int .i64 d5, .int .i64 p0, .int .u8 q0, .int .u32 r0, .int .i64 p1, .int .u8 q1, .int .u32 r1, .int .i64 p2, .int .u8 q2, .int .u32 r2, .int .i64 p3, .int .u8 q3, .int .u32 r3, .int .i64 p4, .int .u8 q4, .int .u32 r4, .int .i64 p5, .int .u8 q5, .int .u32 r5] 32)) = v0 at *
  generalize hn : w.heap.size = n at *
  go_at_call 7
  refine (works_true _).mono ?_
  rintro r u1 ⟨rfl, hb⟩
  replace b0_ := b0_.keep hb
  replace hB := hB.trans (hb.mono (by have := hB.size; omega))
  clear hb
  go_wp2_with (refine wpList_load_row rfl _ _ rfl n (by rfl) _ _ _ _ b0_ Try.underlying32 rfl (by kernel_rfl) ?_)
  go_at_call 8
  refine (hP _).mono ?_
  rintro r u2 ⟨g, rfl, G, hb⟩
  replace b0_ := b0_.keep hb
  replace hB := hB.trans (hb.mono (by have := hB.size; omega))
  clear hb hP b0_
  generalize (.agg #[.int .i64 a0, .int .i64 a1, .int .i64 a2, .int .i64 a3, .int .i64 a4, .int .i64 a5, .int .i64 d0, .int .i64 d1, .int .i64 d2, .int .i64 d3, .int .i64 d4, .int .i64 d5, .int .i64 p0, .int .u8 q0, .int .u32 r0, .int .i64 p1, .int .u8 q1, .int .u32 r1, .int .i64 p2, .int .u8 q2, .int .u32 r2, .int .i64 p3, .int .u8 q3, .int .u32 r3, .int .i64 p4, .int .u8 q4, .int .u32 r4, .int .i64 p5, .int .u8 q5, .int .u32 r5] : Value) = va at *
  have hcs : ∀ k : Int, 0 ≤ k → k < 2 → ∃ e0 e1 e2 e3 e4 e5 f0 f1 f2 f3 f4 f5 : Int, ckV e0 e1 e2 e3 e4 e5 = 0 ∧ ckV f0 f1 f2 f3 f4 f5 = 0 ∧ (#[.int .i64 a0, .int .i64 a1, .int .i64 a2, .int .i64 a3, .int .i64 a4, .int .i64 a5, .int .i64 d0, .int .i64 d1, .int .i64 d2, .int .i64 d3, .int .i64 d4, .int .i64 d5, .int .i64 x0, .int .i64 x1, .int .i64 x2, .int .i64 x3, .int .i64 x4, .int .i64 x5, .int .i64 y0, .int .i64 y1, .int .i64 y2, .int .i64 y3, .int .i64 y4, .int .i64 y5, .int .i64 s0, .int .i64 s1, .int .i64 s2, .int .i64 s3, .int .i64 s4, .int .i64 s5, .int .i64 y0, .int .i64 y1, .int .i64 y2, .int .i64 y3, .int .i64 y4, .int .i64 y5, .int .i64 s0, .int .i64 s1, .int .i64 s2, .int .i64 s3, .int .i64 s4, .int .i64 s5, .int .i64 d0, .int .i64 d1, .int .i64 d2, .int .i64 d3, .int .i64 d4, .int .i64 d5] : Array Value)[12 + k.toNat * 12]? = some (.int .i64 e0) ∧ (#[.int .i64 a0, .int .i64 a1, .int .i64 a2, .int .i64 a3, .int .i64 a4, .int .i64 a5, .int .i64 d0, .int .i64 d1, .int .i64 d2, .int .i64 d3, .int .i64 d4, .int .i64 d5, .int .i64 x0, .int .i64 x1, .int .i64 x2, .int .i64 x3, .int .i64 x4, .int .i64 x5, .int .i64 y0, .int .i64 y1, .int .i64 y2, .int .i64 y3, .int .i64 y4, .int .i64 y5, .int .i64 s0, .int .i64 s1, .int .i64 s2, .int .i64 s3, .int .i64 s4, .int .i64 s5, .int .i64 y0, .int .i64 y1, .int .i64 y2, .int .i64 y3, .int .i64 y4, .int .i64 y5, .int .i64 s0, .int .i64 s1, .int .i64 s2, .int .i64 s3, .int .i64 s4, .int .i64 s5, .int .i64 d0, .int .i64 d1, .int .i64 d2, .int .i64 d3, .int .i64 d4, .int .i64 d5] : Array Value)[12 + k.toNat * 12 + 1]? = some (.int .i64 e1) ∧ (#[.int .i64 a0, .int .i64 a1, .int .i64 a2, .int .i64 a3, .int .i64 a4, .int .i64 a5, .int .i64 d0, .int .i64 d1, .int .i64 d2, .int .i64 d3, .int .i64 d4, .int .i64 d5, .int .i64 x0, .int .i64 x1, .int .i64 x2, .int .i64 x3, .int .i64 x4, .int .i64 x5, .int .i64 y0, .int .i64 y1, .int .i64 y2, .int .i64 y3, .int .i64 y4, .int .i64 y5, .int .i64 s0, .int .i64 s1, .int .i64 s2, .int .i64 s3, .int .i64 s4, .int .i64 s5, .int .i64 y0, .int .i64 y1, .int .i64 y2, .int .i64 y3, .int .i64 y4, .int .i64 y5, .int .i64 s0, .int .i64 s1, .int .i64 s2, .int .i64 s3, .int .i64 s4, .int .i64 s5, .int .i64 d0, .int .i64 d1, .int .i64 d2, .int .i64 d3, .int .i64 d4, .int .i64 d5] : Array Value)[12 + k.toNat * 12 + 2]? = some (.int .i64 e2) ∧ (#[.int .i64 a0, .int .i64 a1, .int .i64 a2, .int .i64 a3, .int .i64 a4, .int .i64 a5, .int .i64 d0, .int .i64 d1, .int .i64 d2, .int .i64 d3, .int .i64 d4, .int .i64 d5, .int .i64 x0, .int .i64 x1, .int .i64 x2, .int .i64 x3, .int .i64 x4, .int .i64 x5, .int .i64 y0, .int .i64 y1, .int .i64 y2, .int .i64 y3, .int .i64 y4, .int .i64 y5, .int .i64 s0, .int .i64 s1, .int .i64 s2, .int .i64 s3, .int .i64 s4, .int .i64 s5, .int .i64 y0, .int .i64 y1, .int .i64 y2, .int .i64 y3, .int .i64 y4, .int .i64 y5, .int .i64 s0, .int .i64 s1, .int .i64 s2, .int .i64 s3, .int .i64 s4, .int .i64 s5, .int .i64 d0, .int .i64 d1, .int .i64 d2, .int .i64 d3, .int .i64 d4, .int .i64 d5] : Array Value)[12 + k.toNat * 12 + 3]? = some (.int .i64 e3) ∧ (#[.int .i64 a0, .int .i64 a1, .int .i64 a2, .int .i64 a3, .int .i64 a4, .int .i64 a5, .int .i64 d0, .int .i64 d1, .int .i64 d2, .int .i64 d3, .int .i64 d4, .int .i64 d5, .int .i64 x0, .int .i64 x1, .int .i64 x2, .int .i64 x3, .int .i64 x4, .int .i64 x5, .int .i64 y0, .int .i64 y1, .int .i64 y2, .int .i64 y3, .int .i64 y4, .int .i64 y5, .int .i64 s0, .int .i64 s1, .int .i64 s2, .int .i64 s3, .int .i64 s4, .int .i64 s5, .int .i64 y0, .int .i64 y1, .int .i64 y2, .int .i64 y3, .int .i64 y4, .int .i64 y5, .int .i64 s0, .int .i64 s1, .int .i64 s2, .int .i64 s3, .int .i64 s4, .int .i64 s5, .int .i64 d0, .int .i64 d1, .int .i64 d2, .int .i64 d3, .int .i64 d4, .int .i64 d5] : Array Value)[12 + k.toNat * 12 + 4]? = some (.int .i64 e4) ∧ (#[.int .i64 a0, .int .i64 a1, .int .i64 a2, .int .i64 a3, .int .i64 a4, .int .i64 a5, .int .i64 d0, .int .i64 d1, .int .i64 d2, .int .i64 d3, .int .i64 d4, .int .i64 d5, .int .i64 x0, .int .i64 x1, .int .i64 x2, .int .i64 x3, .int .i64 x4, .int .i64 x5, .int .i64 y0, .int .i64 y1, .int .i64 y2, .int .i64 y3, .int .i64 y4, .int .i64 y5, .int .i64 s0, .int .i64 s1, .int .i64 s2, .int .i64 s3, .int .i64 s4, .int .i64 s5, .int .i64 y0, .int .i64 y1, .int .i64 y2, .int .i64 y3, .int .i64 y4, .int .i64 y5, .int .i64 s0, .int .i64 s1, .int .i64 s2, .int .i64 s3, .int .i64 s4, .int .i64 s5, .int .i64 d0, .int .i64 d1, .int .i64 d2, .int .i64 d3, .int .i64 d4, .int .i64 d5] : Array Value)[12 + k.toNat * 12 + 5]? = some (.int .i64 e5) ∧ (#[.int .i64 a0, .int .i64 a1, .int .i64 a2, .int .i64 a3, .int .i64 a4, .int .i64 a5, .int .i64 d0, .int .i64 d1, .int .i64 d2, .int .i64 d3, .int .i64 d4, .int .i64 d5, .int .i64 x0, .int .i64 x1, .int .i64 x2, .int .i64 x3, .int .i64 x4, .int .i64 x5, .int .i64 y0, .int .i64 y1, .int .i64 y2, .int .i64 y3, .int .i64 y4, .int .i64 y5, .int .i64 s0, .int .i64 s1, .int .i64 s2, .int .i64 s3, .int .i64 s4, .int .i64 s5, .int .i64 y0, .int .i64 y1, .int .i64 y2, .int .i64 y3, .int .i64 y4, .int .i64 y5, .int .i64 s0, .int .i64 s1, .int .i64 s2, .int .i64 s3, .int .i64 s4, .int .i64 s5, .int .i64 d0, .int .i64 d1, .int .i64 d2, .int .i64 d3, .int .i64 d4, .int .i64 d5] : Array Value)[12 + k.toNat * 12 + 6]? = some (.int .i64 f0) ∧ (#[.int .i64 a0, .int .i64 a1, .int .i64 a2, .int .i64 a3, .int .i64 a4, .int .i64 a5, .int .i64 d0, .int .i64 d1, .int .i64 d2, .int .i64 d3, .int .i64 d4, .int .i64 d5, .int .i64 x0, .int .i64 x1, .int .i64 x2, .int .i64 x3, .int .i64 x4, .int .i64 x5, .int .i64 y0, .int .i64 y1, .int .i64 y2, .int .i64 y3, .int .i64 y4, .int .i64 y5, .int .i64 s0, .int .i64 s1, .int .i64 s2, .int .i64 s3, .int .i64 s4, .int .i64 s5, .int .i64 y0, .int .i64 y1, .int .i64 y2, .int .i64 y3, .int .i64 y4, .int .i64 y5, .int .i64 s0, .int .i64 s1, .int .i64 s2, .int .i64 s3, .int .i64 s4, .int .i64 s5, .int .i64 d0, .int .i64 d1, .int .i64 d2, .int .i64 d3, .int .i64 d4, .int .i64 d5] : Array Value)[12 + k.toNat * 12 + 7]? = some (.int .i64 f1) ∧ (#[.int .i64 a0, .int .i64 a1, .int .i64 a2, .int .i64 a3, .int .i64 a4, .int .i64 a5, .int .i64 d0, .int .i64 d1, .int .i64 d2, .int .i64 d3, .int .i64 d4, .int .i64 d5, .int .i64 x0, .int .i64 x1, .int .i64 x2, .int .i64 x3, .int .i64 x4, .int .i64 x5, .int .i64 y0, .int .i64 y1, .int .i64 y2, .int .i64 y3, .int .i64 y4, .int .i64 y5, .int .i64 s0, .int .i64 s1, .int .i64 s2, .int .i64 s3, .int .i64 s4, .int .i64 s5, .int .i64 y0, .int .i64 y1, .int .i64 y2, .int .i64 y3, .int .i64 y4, .int .i64 y5, .int .i64 s0, .int .i64 s1, .int .i64 s2, .int .i64 s3, .int .i64 s4, .int .i64 s5, .int .i64 d0, .int .i64 d1, .int .i64 d2, .int .i64 d3, .int .i64 d4, .int .i64 d5] : Array Value)[12 + k.toNat * 12 + 8]? = some (.int .i64 f2) ∧ (#[.int .i64 a0, .int .i64 a1, .int .i64 a2, .int .i64 a3, .int .i64 a4, .int .i64 a5, .int .i64 d0, .int .i64 d1, .int .i64 d2, .int .i64 d3, .int .i64 d4, .int .i64 d5, .int .i64 x0, .int .i64 x1, .int .i64 x2, .int .i64 x3, .int .i64 x4, .int .i64 x5, .int .i64 y0, .int .i64 y1, .int .i64 y2, .int .i64 y3, .int .i64 y4, .int .i64 y5, .int .i64 s0, .int .i64 s1, .int .i64 s2, .int .i64 s3, .int .i64 s4, .int .i64 s5, .int .i64 y0, .int .i64 y1, .int .i64 y2, .int .i64 y3, .int .i64 y4, .int .i64 y5, .int .i64 s0, .int .i64 s1, .int .i64 s2, .int .i64 s3, .int .i64 s4, .int .i64 s5, .int .i64 d0, .int .i64 d1, .int .i64 d2, .int .i64 d3, .int .i64 d4, .int .i64 d5] : Array Value)[12 + k.toNat * 12 + 9]? = some (.int .i64 f3) ∧ (#[.int .i64 a0, .int .i64 a1, .int .i64 a2, .int .i64 a3, .int .i64 a4, .int .i64 a5, .int .i64 d0, .int .i64 d1, .int .i64 d2, .int .i64 d3, .int .i64 d4, .int .i64 d5, .int .i64 x0, .int .i64 x1, .int .i64 x2, .int .i64 x3, .int .i64 x4, .int .i64 x5, .int .i64 y0, .int .i64 y1, .int .i64 y2, .int .i64 y3, .int .i64 y4, .int .i64 y5, .int .i64 s0, .int .i64 s1, .int .i64 s2, .int .i64 s3, .int .i64 s4, .int .i64 s5, .int .i64 y0, .int .i64 y1, .int .i64 y2, .int .i64 y3, .int .i64 y4, .int .i64 y5, .int .i64 s0, .int .i64 s1, .int .i64 s2, .int .i64 s3, .int .i64 s4, .int .i64 s5, .int .i64 d0, .int .i64 d1, .int .i64 d2, .int .i64 d3, .int .i64 d4, .int .i64 d5] : Array Value)[12 + k.toNat * 12 + 10]? = some (.int .i64 f4) ∧ (#[.int .i64 a0, .int .i64 a1, .int .i64 a2, .int .i64 a3, .int .i64 a4, .int .i64 a5, .int .i64 d0, .int .i64 d1, .int .i64 d2, .int .i64 d3, .int .i64 d4, .int .i64 d5, .int .i64 x0, .int .i64 x1, .int .i64 x2, .int .i64 x3, .int .i64 x4, .int .i64 x5, .int .i64 y0, .int .i64 y1, .int .i64 y2, .int .i64 y3, .int .i64 y4, .int .i64 y5, .int .i64 s0, .int .i64 s1, .int .i64 s2, .int .i64 s3, .int .i64 s4, .int .i64 s5, .int .i64 y0, .int .i64 y1, .int .i64 y2, .int .i64 y3, .int .i64 y4, .int .i64 y5, .int .i64 s0, .int .i64 s1, .int .i64 s2, .int .i64 s3, .int .i64 s4, .int .i64 s5, .int .i64 d0, .int .i64 d1, .int .i64 d2, .int .i64 d3, .int .i64 d4, .int .i64 d5] : Array Value)[12 + k.toNat * 12 + 11]? = some (.int .i64 f5) := by
    intro k h0 h1
    obtain rfl | rfl : k = 0 ∨ k = 1 := by omega
    · exact ⟨x0, x1, x2, x3, x4, x5, y0, y1, y2, y3, y4, y5, hx, hy, rfl, rfl, rfl, rfl, rfl, rfl, rfl, rfl, rfl, rfl, rfl, rfl⟩
    · exact ⟨s0, s1, s2, s3, s4, s5, y0, y1, y2, y3, y4, y5, hs, hy, rfl, rfl, rfl, rfl, rfl, rfl, rfl, rfl, rfl, rfl, rfl, rfl⟩
  generalize (#[.int .i64 a0, .int .i64 a1, .int .i64 a2, .int .i64 a3, .int .i64 a4, .int .i64 a5, .int .i64 d0, .int .i64 d1, .int .i64 d2, .int .i64 d3, .int .i64 d4, .int .i64 d5, .int .i64 x0, .int .i64 x1, .int .i64 x2, .int .i64 x3, .int .i64 x4, .int .i64 x5, .int .i64 y0, .int .i64 y1, .int .i64 y2, .int .i64 y3, .int .i64 y4, .int .i64 y5, .int .i64 s0, .int .i64 s1, .int .i64 s2, .int .i64 s3, .int .i64 s4, .int .i64 s5, .int .i64 y0, .int .i64 y1, .int .i64 y2, .int .i64 y3, .int .i64 y4, .int .i64 y5, .int .i64 s0, .int .i64 s1, .int .i64 s2, .int .i64 s3, .int .i64 s4, .int .i64 s5, .int .i64 d0, .int .i64 d1, .int .i64 d2, .int .i64 d3, .int .i64 d4, .int .i64 d5] : Array Value) = cs at *
  replace hcs := Lib.hid hcs
  clear hx hy hs q00 q01 r00 r01 q10 q11 r10 r11 q20 q21 r20 r21 q30 q31 r30 r31 q40 q41 r40 r41 q50 q51 r50 r51
  go_wp2_with fail
  go_loopw [27] (fun vi wr => ∃ k : Int, 0 ≤ k ∧ k ≤ 2 ∧ vi = .int .i64 k ∧ Below n w wr ∧ Bn wr g cs 40) (fun vi _ => 2 - (intOf vi).toNat)
  case atStart => exact ⟨0, by omega, by omega, rfl, hB, G⟩
  case round =>
    clear hB G
    obtain ⟨k, k0, k2, rfl, hB, G⟩ := hrel
    by_cases hk : k < 2
    · obtain ⟨e0, e1, e2, e3, e4, e5, f0, f1, f2, f3, f4, f5, ke, kf, d0_, d1_, d2_, d3_, d4_, d5_, d6_, d7_, d8_, d9_, d10_, d11_⟩ := hcs.out k k0 hk
      have c0 : wr.cell? ⟨g, 12 + k.toNat * 12, none⟩ = some (.int .i64 e0) := G.cell _ _ d0_
      have c1 : wr.cell? ⟨g, 12 + k.toNat * 12 + 1, none⟩ = some (.int .i64 e1) := G.cell _ _ d1_
      have c2 : wr.cell? ⟨g, 12 + k.toNat * 12 + 2, none⟩ = some (.int .i64 e2) := G.cell _ _ d2_
      have c3 : wr.cell? ⟨g, 12 + k.toNat * 12 + 3, none⟩ = some (.int .i64 e3) := G.cell _ _ d3_
      have c4 : wr.cell? ⟨g, 12 + k.toNat * 12 + 4, none⟩ = some (.int .i64 e4) := G.cell _ _ d4_
      have c5 : wr.cell? ⟨g, 12 + k.toNat * 12 + 5, none⟩ = some (.int .i64 e5) := G.cell _ _ d5_
      have c6 : wr.cell? ⟨g, 12 + k.toNat * 12 + 6, none⟩ = some (.int .i64 f0) := G.cell _ _ d6_
      have c7 : wr.cell? ⟨g, 12 + k.toNat * 12 + 7, none⟩ = some (.int .i64 f1) := G.cell _ _ d7_
      have c8 : wr.cell? ⟨g, 12 + k.toNat * 12 + 8, none⟩ = some (.int .i64 f2) := G.cell _ _ d8_
      have c9 : wr.cell? ⟨g, 12 + k.toNat * 12 + 9, none⟩ = some (.int .i64 f3) := G.cell _ _ d9_
      have c10 : wr.cell? ⟨g, 12 + k.toNat * 12 + 10, none⟩ = some (.int .i64 f4) := G.cell _ _ d10_
      have c11 : wr.cell? ⟨g, 12 + k.toNat * 12 + 11, none⟩ = some (.int .i64 f5) := G.cell _ _ d11_
      clear d0_ d1_ d2_ d3_ d4_ d5_ d6_ d7_ d8_ d9_ d10_ d11_
      go_upto_region 6 with fail
      go_cut [5, 6] from 31 to 143 (fun va vb wx => ∃ p q : Nat, va = .pointer (some ⟨p, 0, none⟩) ∧ vb = .pointer (some ⟨q, 0, none⟩) ∧ p ≠ q ∧ n ≤ p ∧ n ≤ q ∧ g < p ∧ g < q ∧ p < wx.heap.size ∧ q < wx.heap.size ∧ Bn wx p #[.int .i64 e0, .int .i64 e1, .int .i64 e2, .int .i64 e3, .int .i64 e4, .int .i64 e5] 25 ∧ Bn wx q #[.int .i64 f0, .int .i64 f1, .int .i64 f2, .int .i64 f3, .int .i64 f4, .int .i64 f5] 25 ∧ Below n w wx ∧ Bn wx g cs 40)
      case first =>
        clear ke kf c0 c1 c2 c3 c4 c5 c6 c7 c8 c9 c10 c11
        have hsz : n ≤ wr.heap.size := by have := hB.size; omega
        have lg := G.lt
        have b4 := Bn.new wr #[.int .i64 e0, .int .i64 e1, .int .i64 e2, .int .i64 e3, .int .i64 e4, .int .i64 e5, .int .i64 f0, .int .i64 f1, .int .i64 f2, .int .i64 f3, .int .i64 f4, .int .i64 f5] 40
        replace G := G.alloc (.cells #[.int .i64 e0, .int .i64 e1, .int .i64 e2, .int .i64 e3, .int .i64 e4, .int .i64 e5, .int .i64 f0, .int .i64 f1, .int .i64 f2, .int .i64 f3, .int .i64 f4, .int .i64 f5] 40)
        replace hB := hB.alloc hsz (.cells #[.int .i64 e0, .int .i64 e1, .int .i64 e2, .int .i64 e3, .int .i64 e4, .int .i64 e5, .int .i64 f0, .int .i64 f1, .int .i64 f2, .int .i64 f3, .int .i64 f4, .int .i64 f5] 40)
        generalize (wr.alloc (.cells #[.int .i64 e0, .int .i64 e1, .int .i64 e2, .int .i64 e3, .int .i64 e4, .int .i64 e5, .int .i64 f0, .int .i64 f1, .int .i64 f2, .int .i64 f3, .int .i64 f4, .int .i64 f5] 40)) = v1 at *
        generalize wr.heap.size = g4 at *
        have lg4 := b4.lt
        have c0 : v1.cell? ⟨g4, 0, none⟩ = some (.int .i64 e0) := b4.cell 0 _ rfl
        have c1 : v1.cell? ⟨g4, 1, none⟩ = some (.int .i64 e1) := b4.cell 1 _ rfl
        have c2 : v1.cell? ⟨g4, 2, none⟩ = some (.int .i64 e2) := b4.cell 2 _ rfl
        have c3 : v1.cell? ⟨g4, 3, none⟩ = some (.int .i64 e3) := b4.cell 3 _ rfl
        have c4 : v1.cell? ⟨g4, 4, none⟩ = some (.int .i64 e4) := b4.cell 4 _ rfl
        have c5 : v1.cell? ⟨g4, 5, none⟩ = some (.int .i64 e5) := b4.cell 5 _ rfl
        have c6 : v1.cell? ⟨g4, 6, none⟩ = some (.int .i64 f0) := b4.cell 6 _ rfl
        have c7 : v1.cell? ⟨g4, 7, none⟩ = some (.int .i64 f1) := b4.cell 7 _ rfl
        have c8 : v1.cell? ⟨g4, 8, none⟩ = some (.int .i64 f2) := b4.cell 8 _ rfl
        have c9 : v1.cell? ⟨g4, 9, none⟩ = some (.int .i64 f3) := b4.cell 9 _ rfl
        have c10 : v1.cell? ⟨g4, 10, none⟩ = some (.int .i64 f4) := b4.cell 10 _ rfl
        have c11 : v1.cell? ⟨g4, 11, none⟩ = some (.int .i64 f5) := b4.cell 11 _ rfl
        clear b4
        go_region_held3 (fun w' => w'.cell? ⟨g4, 0, none⟩ = some (.int .i64 e0) ∧ w'.cell? ⟨g4, 1, none⟩ = some (.int .i64 e1) ∧ w'.cell? ⟨g4, 2, none⟩ = some (.int .i64 e2) ∧ w'.cell? ⟨g4, 3, none⟩ = some (.int .i64 e3) ∧ w'.cell? ⟨g4, 4, none⟩ = some (.int .i64 e4) ∧ w'.cell? ⟨g4, 5, none⟩ = some (.int .i64 e5) ∧ w'.cell? ⟨g4, 6, none⟩ = some (.int .i64 f0) ∧ w'.cell? ⟨g4, 7, none⟩ = some (.int .i64 f1) ∧ w'.cell? ⟨g4, 8, none⟩ = some (.int .i64 f2) ∧ w'.cell? ⟨g4, 9, none⟩ = some (.int .i64 f3) ∧ w'.cell? ⟨g4, 10, none⟩ = some (.int .i64 f4) ∧ w'.cell? ⟨g4, 11, none⟩ = some (.int .i64 f5))
          (first | with_reducible exact ⟨c0, c1, c2, c3, c4, c5, c6, c7, c8, c9, c10, c11⟩ | with_reducible exact ⟨cellDrewI c0, cellDrewI c1, cellDrewI c2, cellDrewI c3, cellDrewI c4, cellDrewI c5, cellDrewI c6, cellDrewI c7, cellDrewI c8, cellDrewI c9, cellDrewI c10, cellDrewI c11⟩ | with_reducible exact ⟨cellDrewI (cellAllocI c0), cellDrewI (cellAllocI c1), cellDrewI (cellAllocI c2), cellDrewI (cellAllocI c3), cellDrewI (cellAllocI c4), cellDrewI (cellAllocI c5), cellDrewI (cellAllocI c6), cellDrewI (cellAllocI c7), cellDrewI (cellAllocI c8), cellDrewI (cellAllocI c9), cellDrewI (cellAllocI c10), cellDrewI (cellAllocI c11)⟩ | with_reducible exact ⟨cellDrewI (cellAllocI (cellAllocI c0)), cellDrewI (cellAllocI (cellAllocI c1)), cellDrewI (cellAllocI (cellAllocI c2)), cellDrewI (cellAllocI (cellAllocI c3)), cellDrewI (cellAllocI (cellAllocI c4)), cellDrewI (cellAllocI (cellAllocI c5)), cellDrewI (cellAllocI (cellAllocI c6)), cellDrewI (cellAllocI (cellAllocI c7)), cellDrewI (cellAllocI (cellAllocI c8)), cellDrewI (cellAllocI (cellAllocI c9)), cellDrewI (cellAllocI (cellAllocI c10)), cellDrewI (cellAllocI (cellAllocI c11))⟩ | with_reducible exact ⟨cellAllocI (cellDrewI c0), cellAllocI (cellDrewI c1), cellAllocI (cellDrewI c2), cellAllocI (cellDrewI c3), cellAllocI (cellDrewI c4), cellAllocI (cellDrewI c5), cellAllocI (cellDrewI c6), cellAllocI (cellDrewI c7), cellAllocI (cellDrewI c8), cellAllocI (cellDrewI c9), cellAllocI (cellDrewI c10), cellAllocI (cellDrewI c11)⟩ | with_reducible exact ⟨cellAllocI (cellAllocI (cellDrewI c0)), cellAllocI (cellAllocI (cellDrewI c1)), cellAllocI (cellAllocI (cellDrewI c2)), cellAllocI (cellAllocI (cellDrewI c3)), cellAllocI (cellAllocI (cellDrewI c4)), cellAllocI (cellAllocI (cellDrewI c5)), cellAllocI (cellAllocI (cellDrewI c6)), cellAllocI (cellAllocI (cellDrewI c7)), cellAllocI (cellAllocI (cellDrewI c8)), cellAllocI (cellAllocI (cellDrewI c9)), cellAllocI (cellAllocI (cellDrewI c10)), cellAllocI (cellAllocI (cellDrewI c11))⟩)
          (fail)
        all_goals (go_wp2_with fail; go_meet)
        all_goals clear c0 c1 c2 c3 c4 c5 c6 c7 c8 c9 c10 c11
        all_goals have hsz1 : n ≤ v1.heap.size := by have := hB.size; omega
        all_goals have lg1 := G.lt
        all_goals refine ⟨_, _, rfl, rfl, ?_, ?_, ?_, ?_, ?_, ?_, ?_, ?_, ?_, ?_, ?_⟩
        all_goals (first | omega | (show _ < (World.alloc _ _).heap.size; simp <;> omega) | exact bnFst.drewI | exact bnSnd.drewI | exact ((G.alloc _).alloc _).drewI | exact ((hB.alloc hsz1 _).alloc (by simp; omega) _).drew)
      case rest =>
        obtain ⟨p, q, rfl, rfl, npq, np, nq, gp, gq, lp, lq, bP, bQ, hB, G⟩ := hcut
        clear c0 c1 c2 c3 c4 c5 c6 c7 c8 c9 c10 c11
        have h1 := fun w => pAdd_any e0 e1 e2 e3 e4 e5 f0 f1 f2 f3 f4 f5 w
        have h2 := fun w => pAdd_any f0 f1 f2 f3 f4 f5 e0 e1 e2 e3 e4 e5 w
        rw [vAdd_comm] at h2
        have h3 := fun w => pDot_any e0 e1 e2 e3 e4 e5 f0 f1 f2 f3 f4 f5 w
        have h4 := fun w => pDot_any f0 f1 f2 f3 f4 f5 e0 e1 e2 e3 e4 e5 w
        rw [vDot_comm] at h4
        have m1 := fun w => pSub_any e0 e1 e2 e3 e4 e5 f0 f1 f2 f3 f4 f5 w
        have m2 := fun w => pSub_any f0 f1 f2 f3 f4 f5 e0 e1 e2 e3 e4 e5 w
        rw [vSub_swap] at m2
        have n1 := fun w => pCross_any e0 e1 e2 e3 e4 e5 f0 f1 f2 f3 f4 f5 w
        have n2 := fun w => pCross_any f0 f1 f2 f3 f4 f5 e0 e1 e2 e3 e4 e5 w
        rw [vCross_swap e0 e1 e2 e3 e4 e5 f0 f1 f2 f3 f4 f5 ke kf] at n2
        have za := fun w => pNeg_any f0 f1 f2 f3 f4 f5 w
        rw [vNeg_val kf] at za
        have zb := fun w => pAdd_any e0 e1 e2 e3 e4 e5 (-f1) (-f0) (-f3) (-f2) (-f5) (-f4) w
        rw [vAdd_neg ke kf] at zb
        have oM := vSub_ok e0 e1 e2 e3 e4 e5 f0 f1 f2 f3 f4 f5
        have oN := vCross_ok e0 e1 e2 e3 e4 e5 f0 f1 f2 f3 f4 f5
        generalize vAddR e0 e1 e2 e3 e4 e5 f0 f1 f2 f3 f4 f5 = S at *
        generalize vDotR e0 e1 e2 e3 e4 e5 f0 f1 f2 f3 f4 f5 = T at *
        generalize vSubR e0 e1 e2 e3 e4 e5 f0 f1 f2 f3 f4 f5 = M at *
        generalize vCrossR e0 e1 e2 e3 e4 e5 f0 f1 f2 f3 f4 f5 = N at *
        have zc := fun w => pNeg_any (-M.x1) (-M.x0) (-M.y1) (-M.y0) (-M.z1) (-M.z0) w
        rw [vNeg_neg oM] at zc
        have zd := fun w => pNeg_any (-N.x1) (-N.x0) (-N.y1) (-N.y0) (-N.z1) (-N.z0) w
        rw [vNeg_neg oN] at zd
        clear oM oN ke kf
        unfold negV at m2 n2
        simp only [] at m2 n2 za zb zc zd
        have qS := fun w => eqV_self S.x0 S.x1 S.y0 S.y1 S.z0 S.z1 w
        have qM := fun w => eqV_self M.x0 M.x1 M.y0 M.y1 M.z0 M.z1 w
        have bGx := G
        clear G
        have cP0 : wc.cell? ⟨p, 0, none⟩ = some (.int .i64 e0) := bP.cell 0 _ rfl
        have cP1 : wc.cell? ⟨p, 1, none⟩ = some (.int .i64 e1) := bP.cell 1 _ rfl
        have cP2 : wc.cell? ⟨p, 2, none⟩ = some (.int .i64 e2) := bP.cell 2 _ rfl
        have cP3 : wc.cell? ⟨p, 3, none⟩ = some (.int .i64 e3) := bP.cell 3 _ rfl
        have cP4 : wc.cell? ⟨p, 4, none⟩ = some (.int .i64 e4) := bP.cell 4 _ rfl
        have cP5 : wc.cell? ⟨p, 5, none⟩ = some (.int .i64 e5) := bP.cell 5 _ rfl
        have kP := bP.lt
        have cQ0 : wc.cell? ⟨q, 0, none⟩ = some (.int .i64 f0) := bQ.cell 0 _ rfl
        have cQ1 : wc.cell? ⟨q, 1, none⟩ = some (.int .i64 f1) := bQ.cell 1 _ rfl
        have cQ2 : wc.cell? ⟨q, 2, none⟩ = some (.int .i64 f2) := bQ.cell 2 _ rfl
        have cQ3 : wc.cell? ⟨q, 3, none⟩ = some (.int .i64 f3) := bQ.cell 3 _ rfl
        have cQ4 : wc.cell? ⟨q, 4, none⟩ = some (.int .i64 f4) := bQ.cell 4 _ rfl
        have cQ5 : wc.cell? ⟨q, 5, none⟩ = some (.int .i64 f5) := bQ.cell 5 _ rfl
        have kQ := bQ.lt
        go_wp2_with fail
        go_at_call 10
        refine (h1 _).mono ?_
        rintro r u1 ⟨rfl, hb⟩
        replace bP := bP.keep hb
        replace bQ := bQ.keep hb
        replace bGx := bGx.keep hb
        replace hB := hB.trans (hb.mono (by have := hB.size; omega))
        clear hb cP0 cP1 cP2 cP3 cP4 cP5 kP cQ0 cQ1 cQ2 cQ3 cQ4 cQ5 kQ
        have lP := bP.lt
        have lQ := bQ.lt
        have lGx := bGx.lt
        have hsz : n ≤ u1.heap.size := by have := hB.size; omega
        have bS := Bn.new u1 #[.int .i64 S.x0, .int .i64 S.x1, .int .i64 S.y0, .int .i64 S.y1, .int .i64 S.z0, .int .i64 S.z1] 25
        replace bP := bP.alloc (.cells #[.int .i64 S.x0, .int .i64 S.x1, .int .i64 S.y0, .int .i64 S.y1, .int .i64 S.z0, .int .i64 S.z1] 25)
        replace bQ := bQ.alloc (.cells #[.int .i64 S.x0, .int .i64 S.x1, .int .i64 S.y0, .int .i64 S.y1, .int .i64 S.z0, .int .i64 S.z1] 25)
        replace bGx := bGx.alloc (.cells #[.int .i64 S.x0, .int .i64 S.x1, .int .i64 S.y0, .int .i64 S.y1, .int .i64 S.z0, .int .i64 S.z1] 25)
        replace hB := hB.alloc hsz (.cells #[.int .i64 S.x0, .int .i64 S.x1, .int .i64 S.y0, .int .i64 S.y1, .int .i64 S.z0, .int .i64 S.z1] 25)
        have cP0 : (u1.alloc (.cells #[.int .i64 S.x0, .int .i64 S.x1, .int .i64 S.y0, .int .i64 S.y1, .int .i64 S.z0, .int .i64 S.z1] 25)).cell? ⟨p, 0, none⟩ = some (.int .i64 e0) := bP.cell 0 _ rfl
        have cP1 : (u1.alloc (.cells #[.int .i64 S.x0, .int .i64 S.x1, .int .i64 S.y0, .int .i64 S.y1, .int .i64 S.z0, .int .i64 S.z1] 25)).cell? ⟨p, 1, none⟩ = some (.int .i64 e1) := bP.cell 1 _ rfl
        have cP2 : (u1.alloc (.cells #[.int .i64 S.x0, .int .i64 S.x1, .int .i64 S.y0, .int .i64 S.y1, .int .i64 S.z0, .int .i64 S.z1] 25)).cell? ⟨p, 2, none⟩ = some (.int .i64 e2) := bP.cell 2 _ rfl
        have cP3 : (u1.alloc (.cells #[.int .i64 S.x0, .int .i64 S.x1, .int .i64 S.y0, .int .i64 S.y1, .int .i64 S.z0, .int .i64 S.z1] 25)).cell? ⟨p, 3, none⟩ = some (.int .i64 e3) := bP.cell 3 _ rfl
        have cP4 : (u1.alloc (.cells #[.int .i64 S.x0, .int .i64 S.x1, .int .i64 S.y0, .int .i64 S.y1, .int .i64 S.z0, .int .i64 S.z1] 25)).cell? ⟨p, 4, none⟩ = some (.int .i64 e4) := bP.cell 4 _ rfl
        have cP5 : (u1.alloc (.cells #[.int .i64 S.x0, .int .i64 S.x1, .int .i64 S.y0, .int .i64 S.y1, .int .i64 S.z0, .int .i64 S.z1] 25)).cell? ⟨p, 5, none⟩ = some (.int .i64 e5) := bP.cell 5 _ rfl
        have kP := bP.lt
        have cQ0 : (u1.alloc (.cells #[.int .i64 S.x0, .int .i64 S.x1, .int .i64 S.y0, .int .i64 S.y1, .int .i64 S.z0, .int .i64 S.z1] 25)).cell? ⟨q, 0, none⟩ = some (.int .i64 f0) := bQ.cell 0 _ rfl
        have cQ1 : (u1.alloc (.cells #[.int .i64 S.x0, .int .i64 S.x1, .int .i64 S.y0, .int .i64 S.y1, .int .i64 S.z0, .int .i64 S.z1] 25)).cell? ⟨q, 1, none⟩ = some (.int .i64 f1) := bQ.cell 1 _ rfl
        have cQ2 : (u1.alloc (.cells #[.int .i64 S.x0, .int .i64 S.x1, .int .i64 S.y0, .int .i64 S.y1, .int .i64 S.z0, .int .i64 S.z1] 25)).cell? ⟨q, 2, none⟩ = some (.int .i64 f2) := bQ.cell 2 _ rfl
        have cQ3 : (u1.alloc (.cells #[.int .i64 S.x0, .int .i64 S.x1, .int .i64 S.y0, .int .i64 S.y1, .int .i64 S.z0, .int .i64 S.z1] 25)).cell? ⟨q, 3, none⟩ = some (.int .i64 f3) := bQ.cell 3 _ rfl
        have cQ4 : (u1.alloc (.cells #[.int .i64 S.x0, .int .i64 S.x1, .int .i64 S.y0, .int .i64 S.y1, .int .i64 S.z0, .int .i64 S.z1] 25)).cell? ⟨q, 4, none⟩ = some (.int .i64 f4) := bQ.cell 4 _ rfl
        have cQ5 : (u1.alloc (.cells #[.int .i64 S.x0, .int .i64 S.x1, .int .i64 S.y0, .int .i64 S.y1, .int .i64 S.z0, .int .i64 S.z1] 25)).cell? ⟨q, 5, none⟩ = some (.int .i64 f5) := bQ.cell 5 _ rfl
        have kQ := bQ.lt
        go_wp2_with fail
        go_at_call 10
        refine (h2 _).mono ?_
        rintro r u2 ⟨rfl, hb⟩
        replace bP := bP.keep hb
        replace bQ := bQ.keep hb
        replace bGx := bGx.keep hb
        replace bS := bS.keep hb
        replace hB := hB.trans (hb.mono (by have := hB.size; omega))
        clear hb cP0 cP1 cP2 cP3 cP4 cP5 kP cQ0 cQ1 cQ2 cQ3 cQ4 cQ5 kQ
        generalize u1.heap.size = gS at *
        clear hsz
        have lP := bP.lt
        have lQ := bQ.lt
        have lGx := bGx.lt
        have lS := bS.lt
        have hsz : n ≤ u2.heap.size := by have := hB.size; omega
        have bR := Bn.new u2 #[.int .i64 S.x0, .int .i64 S.x1, .int .i64 S.y0, .int .i64 S.y1, .int .i64 S.z0, .int .i64 S.z1] 25
        replace bP := bP.alloc (.cells #[.int .i64 S.x0, .int .i64 S.x1, .int .i64 S.y0, .int .i64 S.y1, .int .i64 S.z0, .int .i64 S.z1] 25)
        replace bQ := bQ.alloc (.cells #[.int .i64 S.x0, .int .i64 S.x1, .int .i64 S.y0, .int .i64 S.y1, .int .i64 S.z0, .int .i64 S.z1] 25)
        replace bGx := bGx.alloc (.cells #[.int .i64 S.x0, .int .i64 S.x1, .int .i64 S.y0, .int .i64 S.y1, .int .i64 S.z0, .int .i64 S.z1] 25)
        replace bS := bS.alloc (.cells #[.int .i64 S.x0, .int .i64 S.x1, .int .i64 S.y0, .int .i64 S.y1, .int .i64 S.z0, .int .i64 S.z1] 25)
        replace hB := hB.alloc hsz (.cells #[.int .i64 S.x0, .int .i64 S.x1, .int .i64 S.y0, .int .i64 S.y1, .int .i64 S.z0, .int .i64 S.z1] 25)
        have cP0 : (u2.alloc (.cells #[.int .i64 S.x0, .int .i64 S.x1, .int .i64 S.y0, .int .i64 S.y1, .int .i64 S.z0, .int .i64 S.z1] 25)).cell? ⟨p, 0, none⟩ = some (.int .i64 e0) := bP.cell 0 _ rfl
        have cP1 : (u2.alloc (.cells #[.int .i64 S.x0, .int .i64 S.x1, .int .i64 S.y0, .int .i64 S.y1, .int .i64 S.z0, .int .i64 S.z1] 25)).cell? ⟨p, 1, none⟩ = some (.int .i64 e1) := bP.cell 1 _ rfl
        have cP2 : (u2.alloc (.cells #[.int .i64 S.x0, .int .i64 S.x1, .int .i64 S.y0, .int .i64 S.y1, .int .i64 S.z0, .int .i64 S.z1] 25)).cell? ⟨p, 2, none⟩ = some (.int .i64 e2) := bP.cell 2 _ rfl
        have cP3 : (u2.alloc (.cells #[.int .i64 S.x0, .int .i64 S.x1, .int .i64 S.y0, .int .i64 S.y1, .int .i64 S.z0, .int .i64 S.z1] 25)).cell? ⟨p, 3, none⟩ = some (.int .i64 e3) := bP.cell 3 _ rfl
        have cP4 : (u2.alloc (.cells #[.int .i64 S.x0, .int .i64 S.x1, .int .i64 S.y0, .int .i64 S.y1, .int .i64 S.z0, .int .i64 S.z1] 25)).cell? ⟨p, 4, none⟩ = some (.int .i64 e4) := bP.cell 4 _ rfl
        have cP5 : (u2.alloc (.cells #[.int .i64 S.x0, .int .i64 S.x1, .int .i64 S.y0, .int .i64 S.y1, .int .i64 S.z0, .int .i64 S.z1] 25)).cell? ⟨p, 5, none⟩ = some (.int .i64 e5) := bP.cell 5 _ rfl
        have kP := bP.lt
        have cQ0 : (u2.alloc (.cells #[.int .i64 S.x0, .int .i64 S.x1, .int .i64 S.y0, .int .i64 S.y1, .int .i64 S.z0, .int .i64 S.z1] 25)).cell? ⟨q, 0, none⟩ = some (.int .i64 f0) := bQ.cell 0 _ rfl
        have cQ1 : (u2.alloc (.cells #[.int .i64 S.x0, .int .i64 S.x1, .int .i64 S.y0, .int .i64 S.y1, .int .i64 S.z0, .int .i64 S.z1] 25)).cell? ⟨q, 1, none⟩ = some (.int .i64 f1) := bQ.cell 1 _ rfl
        have cQ2 : (u2.alloc (.cells #[.int .i64 S.x0, .int .i64 S.x1, .int .i64 S.y0, .int .i64 S.y1, .int .i64 S.z0, .int .i64 S.z1] 25)).cell? ⟨q, 2, none⟩ = some (.int .i64 f2) := bQ.cell 2 _ rfl
        have cQ3 : (u2.alloc (.cells #[.int .i64 S.x0, .int .i64 S.x1, .int .i64 S.y0, .int .i64 S.y1, .int .i64 S.z0, .int .i64 S.z1] 25)).cell? ⟨q, 3, none⟩ = some (.int .i64 f3) := bQ.cell 3 _ rfl
        have cQ4 : (u2.alloc (.cells #[.int .i64 S.x0, .int .i64 S.x1, .int .i64 S.y0, .int .i64 S.y1, .int .i64 S.z0, .int .i64 S.z1] 25)).cell? ⟨q, 4, none⟩ = some (.int .i64 f4) := bQ.cell 4 _ rfl
        have cQ5 : (u2.alloc (.cells #[.int .i64 S.x0, .int .i64 S.x1, .int .i64 S.y0, .int .i64 S.y1, .int .i64 S.z0, .int .i64 S.z1] 25)).cell? ⟨q, 5, none⟩ = some (.int .i64 f5) := bQ.cell 5 _ rfl
        have kQ := bQ.lt
        have cS0 : (u2.alloc (.cells #[.int .i64 S.x0, .int .i64 S.x1, .int .i64 S.y0, .int .i64 S.y1, .int .i64 S.z0, .int .i64 S.z1] 25)).cell? ⟨gS, 0, none⟩ = some (.int .i64 S.x0) := bS.cell 0 _ rfl
        have cS1 : (u2.alloc (.cells #[.int .i64 S.x0, .int .i64 S.x1, .int .i64 S.y0, .int .i64 S.y1, .int .i64 S.z0, .int .i64 S.z1] 25)).cell? ⟨gS, 1, none⟩ = some (.int .i64 S.x1) := bS.cell 1 _ rfl
        have cS2 : (u2.alloc (.cells #[.int .i64 S.x0, .int .i64 S.x1, .int .i64 S.y0, .int .i64 S.y1, .int .i64 S.z0, .int .i64 S.z1] 25)).cell? ⟨gS, 2, none⟩ = some (.int .i64 S.y0) := bS.cell 2 _ rfl
        have cS3 : (u2.alloc (.cells #[.int .i64 S.x0, .int .i64 S.x1, .int .i64 S.y0, .int .i64 S.y1, .int .i64 S.z0, .int .i64 S.z1] 25)).cell? ⟨gS, 3, none⟩ = some (.int .i64 S.y1) := bS.cell 3 _ rfl
        have cS4 : (u2.alloc (.cells #[.int .i64 S.x0, .int .i64 S.x1, .int .i64 S.y0, .int .i64 S.y1, .int .i64 S.z0, .int .i64 S.z1] 25)).cell? ⟨gS, 4, none⟩ = some (.int .i64 S.z0) := bS.cell 4 _ rfl
        have cS5 : (u2.alloc (.cells #[.int .i64 S.x0, .int .i64 S.x1, .int .i64 S.y0, .int .i64 S.y1, .int .i64 S.z0, .int .i64 S.z1] 25)).cell? ⟨gS, 5, none⟩ = some (.int .i64 S.z1) := bS.cell 5 _ rfl
        have kS := bS.lt
        have cR0 : (u2.alloc (.cells #[.int .i64 S.x0, .int .i64 S.x1, .int .i64 S.y0, .int .i64 S.y1, .int .i64 S.z0, .int .i64 S.z1] 25)).cell? ⟨u2.heap.size, 0, none⟩ = some (.int .i64 S.x0) := bR.cell 0 _ rfl
        have cR1 : (u2.alloc (.cells #[.int .i64 S.x0, .int .i64 S.x1, .int .i64 S.y0, .int .i64 S.y1, .int .i64 S.z0, .int .i64 S.z1] 25)).cell? ⟨u2.heap.size, 1, none⟩ = some (.int .i64 S.x1) := bR.cell 1 _ rfl
        have cR2 : (u2.alloc (.cells #[.int .i64 S.x0, .int .i64 S.x1, .int .i64 S.y0, .int .i64 S.y1, .int .i64 S.z0, .int .i64 S.z1] 25)).cell? ⟨u2.heap.size, 2, none⟩ = some (.int .i64 S.y0) := bR.cell 2 _ rfl
        have cR3 : (u2.alloc (.cells #[.int .i64 S.x0, .int .i64 S.x1, .int .i64 S.y0, .int .i64 S.y1, .int .i64 S.z0, .int .i64 S.z1] 25)).cell? ⟨u2.heap.size, 3, none⟩ = some (.int .i64 S.y1) := bR.cell 3 _ rfl
        have cR4 : (u2.alloc (.cells #[.int .i64 S.x0, .int .i64 S.x1, .int .i64 S.y0, .int .i64 S.y1, .int .i64 S.z0, .int .i64 S.z1] 25)).cell? ⟨u2.heap.size, 4, none⟩ = some (.int .i64 S.z0) := bR.cell 4 _ rfl
        have cR5 : (u2.alloc (.cells #[.int .i64 S.x0, .int .i64 S.x1, .int .i64 S.y0, .int .i64 S.y1, .int .i64 S.z0, .int .i64 S.z1] 25)).cell? ⟨u2.heap.size, 5, none⟩ = some (.int .i64 S.z1) := bR.cell 5 _ rfl
        have kR := bR.lt
        go_wp2_with fail
        go_at_call 15
        refine (h3 _).mono ?_
        rintro r u3 ⟨rfl, hb⟩
        replace bP := bP.keep hb
        replace bQ := bQ.keep hb
        replace bGx := bGx.keep hb
        replace bS := bS.keep hb
        replace bR := bR.keep hb
        replace hB := hB.trans (hb.mono (by have := hB.size; omega))
        clear hb cP0 cP1 cP2 cP3 cP4 cP5 kP cQ0 cQ1 cQ2 cQ3 cQ4 cQ5 kQ cS0 cS1 cS2 cS3 cS4 cS5 kS cR0 cR1 cR2 cR3 cR4 cR5 kR
        generalize u2.heap.size = gR at *
        clear hsz
        have lP := bP.lt
        have lQ := bQ.lt
        have lGx := bGx.lt
        have lS := bS.lt
        have lR := bR.lt
        have hsz : n ≤ u3.heap.size := by have := hB.size; omega
        have bD := Bn.new u3 #[.int .i64 T.1, .int .i64 T.2.1] 23
        replace bP := bP.alloc (.cells #[.int .i64 T.1, .int .i64 T.2.1] 23)
        replace bQ := bQ.alloc (.cells #[.int .i64 T.1, .int .i64 T.2.1] 23)
        replace bGx := bGx.alloc (.cells #[.int .i64 T.1, .int .i64 T.2.1] 23)
        replace bS := bS.alloc (.cells #[.int .i64 T.1, .int .i64 T.2.1] 23)
        replace bR := bR.alloc (.cells #[.int .i64 T.1, .int .i64 T.2.1] 23)
        replace hB := hB.alloc hsz (.cells #[.int .i64 T.1, .int .i64 T.2.1] 23)
        have cP0 : (u3.alloc (.cells #[.int .i64 T.1, .int .i64 T.2.1] 23)).cell? ⟨p, 0, none⟩ = some (.int .i64 e0) := bP.cell 0 _ rfl
        have cP1 : (u3.alloc (.cells #[.int .i64 T.1, .int .i64 T.2.1] 23)).cell? ⟨p, 1, none⟩ = some (.int .i64 e1) := bP.cell 1 _ rfl
        have cP2 : (u3.alloc (.cells #[.int .i64 T.1, .int .i64 T.2.1] 23)).cell? ⟨p, 2, none⟩ = some (.int .i64 e2) := bP.cell 2 _ rfl
        have cP3 : (u3.alloc (.cells #[.int .i64 T.1, .int .i64 T.2.1] 23)).cell? ⟨p, 3, none⟩ = some (.int .i64 e3) := bP.cell 3 _ rfl
        have cP4 : (u3.alloc (.cells #[.int .i64 T.1, .int .i64 T.2.1] 23)).cell? ⟨p, 4, none⟩ = some (.int .i64 e4) := bP.cell 4 _ rfl
        have cP5 : (u3.alloc (.cells #[.int .i64 T.1, .int .i64 T.2.1] 23)).cell? ⟨p, 5, none⟩ = some (.int .i64 e5) := bP.cell 5 _ rfl
        have kP := bP.lt
        have cQ0 : (u3.alloc (.cells #[.int .i64 T.1, .int .i64 T.2.1] 23)).cell? ⟨q, 0, none⟩ = some (.int .i64 f0) := bQ.cell 0 _ rfl
        have cQ1 : (u3.alloc (.cells #[.int .i64 T.1, .int .i64 T.2.1] 23)).cell? ⟨q, 1, none⟩ = some (.int .i64 f1) := bQ.cell 1 _ rfl
        have cQ2 : (u3.alloc (.cells #[.int .i64 T.1, .int .i64 T.2.1] 23)).cell? ⟨q, 2, none⟩ = some (.int .i64 f2) := bQ.cell 2 _ rfl
        have cQ3 : (u3.alloc (.cells #[.int .i64 T.1, .int .i64 T.2.1] 23)).cell? ⟨q, 3, none⟩ = some (.int .i64 f3) := bQ.cell 3 _ rfl
        have cQ4 : (u3.alloc (.cells #[.int .i64 T.1, .int .i64 T.2.1] 23)).cell? ⟨q, 4, none⟩ = some (.int .i64 f4) := bQ.cell 4 _ rfl
        have cQ5 : (u3.alloc (.cells #[.int .i64 T.1, .int .i64 T.2.1] 23)).cell? ⟨q, 5, none⟩ = some (.int .i64 f5) := bQ.cell 5 _ rfl
        have kQ := bQ.lt
        go_wp2_with fail
        go_at_call 15
        refine (h4 _).mono ?_
        rintro r u4 ⟨rfl, hb⟩
        replace bP := bP.keep hb
        replace bQ := bQ.keep hb
        replace bGx := bGx.keep hb
        replace bS := bS.keep hb
        replace bR := bR.keep hb
        replace bD := bD.keep hb
        replace hB := hB.trans (hb.mono (by have := hB.size; omega))
        clear hb cP0 cP1 cP2 cP3 cP4 cP5 kP cQ0 cQ1 cQ2 cQ3 cQ4 cQ5 kQ
        generalize u3.heap.size = gD at *
        clear hsz
        have lP := bP.lt
        have lQ := bQ.lt
        have lGx := bGx.lt
        have lS := bS.lt
        have lR := bR.lt
        have lD := bD.lt
        have hsz : n ≤ u4.heap.size := by have := hB.size; omega
        have bK := Bn.new u4 #[.int .i64 T.1, .int .i64 T.2.1] 23
        replace bP := bP.alloc (.cells #[.int .i64 T.1, .int .i64 T.2.1] 23)
        replace bQ := bQ.alloc (.cells #[.int .i64 T.1, .int .i64 T.2.1] 23)
        replace bGx := bGx.alloc (.cells #[.int .i64 T.1, .int .i64 T.2.1] 23)
        replace bS := bS.alloc (.cells #[.int .i64 T.1, .int .i64 T.2.1] 23)
        replace bR := bR.alloc (.cells #[.int .i64 T.1, .int .i64 T.2.1] 23)
        replace bD := bD.alloc (.cells #[.int .i64 T.1, .int .i64 T.2.1] 23)
        replace hB := hB.alloc hsz (.cells #[.int .i64 T.1, .int .i64 T.2.1] 23)
        have cD0 : (u4.alloc (.cells #[.int .i64 T.1, .int .i64 T.2.1] 23)).cell? ⟨gD, 0, none⟩ = some (.int .i64 T.1) := bD.cell 0 _ rfl
        have cD1 : (u4.alloc (.cells #[.int .i64 T.1, .int .i64 T.2.1] 23)).cell? ⟨gD, 1, none⟩ = some (.int .i64 T.2.1) := bD.cell 1 _ rfl
        have kD := bD.lt
        have cK0 : (u4.alloc (.cells #[.int .i64 T.1, .int .i64 T.2.1] 23)).cell? ⟨u4.heap.size, 0, none⟩ = some (.int .i64 T.1) := bK.cell 0 _ rfl
        have cK1 : (u4.alloc (.cells #[.int .i64 T.1, .int .i64 T.2.1] 23)).cell? ⟨u4.heap.size, 1, none⟩ = some (.int .i64 T.2.1) := bK.cell 1 _ rfl
        have kK := bK.lt
        go_wp2_with fail
        clear cD0 cD1 kD cK0 cK1 kK h1 h2 h3 h4 qS
        generalize (u4.alloc (.cells #[.int .i64 T.1, .int .i64 T.2.1] 23)) = v2 at *
        generalize u4.heap.size = gK at *
        clear hsz
        have hidx : ∀ j : Int, 0 ≤ j → j < 2 → ∃ (c : Nat) (Q : VR), (∀ w, (Instr.index 53 (.agg #[.func (.func 11) #[] #[], .func (.func 12) #[] #[]]) (.int .i64 j)).run Try.prog w = .ok (.func (.func c) #[] #[]) w) ∧ (∀ (args : Array Value) (w : World), Sem.run Try.prog (callFunc c args) w = .ok (.enter c args) w) ∧ (∀ w, Calls Try.prog c #[.agg #[.int .i64 e0, .int .i64 e1, .int .i64 e2, .int .i64 e3, .int .i64 e4, .int .i64 e5], .agg #[.int .i64 f0, .int .i64 f1, .int .i64 f2, .int .i64 f3, .int .i64 f4, .int .i64 f5]] w fun r w' => r = .returned (.tuple #[.agg #[.int .i64 Q.x0, .int .i64 Q.x1, .int .i64 Q.y0, .int .i64 Q.y1, .int .i64 Q.z0, .int .i64 Q.z1], .int .i64 Q.e]) ∧ Below w.heap.size w w') ∧ (∀ w, Calls Try.prog c #[.agg #[.int .i64 f0, .int .i64 f1, .int .i64 f2, .int .i64 f3, .int .i64 f4, .int .i64 f5], .agg #[.int .i64 e0, .int .i64 e1, .int .i64 e2, .int .i64 e3, .int .i64 e4, .int .i64 e5]] w fun r w' => r = .returned (.tuple #[.agg #[.int .i64 (-Q.x1), .int .i64 (-Q.x0), .int .i64 (-Q.y1), .int .i64 (-Q.y0), .int .i64 (-Q.z1), .int .i64 (-Q.z0)], .int .i64 Q.e]) ∧ Below w.heap.size w w') ∧ (∀ w, Calls Try.prog 18 #[.agg #[.int .i64 (-Q.x1), .int .i64 (-Q.x0), .int .i64 (-Q.y1), .int .i64 (-Q.y0), .int .i64 (-Q.z1), .int .i64 (-Q.z0)]] w fun r w' => r = .returned (.tuple #[.agg #[.int .i64 Q.x0, .int .i64 Q.x1, .int .i64 Q.y0, .int .i64 Q.y1, .int .i64 Q.z0, .int .i64 Q.z1], .int .i64 0]) ∧ Below w.heap.size w w') := by
          intro j h0 h1
          obtain rfl | rfl : j = 0 ∨ j = 1 := by omega
          · exact ⟨_, M, fun _ => by kernel_rfl, fun _ _ => by kernel_rfl, m1, m2, zc⟩
          · exact ⟨_, N, fun _ => by kernel_rfl, fun _ _ => by kernel_rfl, n1, n2, zd⟩
        clear m2 n1 n2 zc zd
        replace hidx := Lib.hid hidx
        have lPz := bP.lt
        have lQz := bQ.lt
        have lGxz := bGx.lt
        have lDz := bD.lt
        have lKz := bK.lt
        have lSz := bS.lt
        have lRz := bR.lt
        obtain ⟨wo, hwo⟩ : ∃ wo : World, wo = wr := ⟨_, rfl⟩
        clear hwo
        go_loopw [76] (fun vi wx => ∃ j : Int, 0 ≤ j ∧ j ≤ 2 ∧ vi = .int .i64 j ∧ Below n w wx ∧ Bn wx p #[.int .i64 e0, .int .i64 e1, .int .i64 e2, .int .i64 e3, .int .i64 e4, .int .i64 e5] 25 ∧ Bn wx q #[.int .i64 f0, .int .i64 f1, .int .i64 f2, .int .i64 f3, .int .i64 f4, .int .i64 f5] 25 ∧ Bn wx g cs 40 ∧ Bn wx gD #[.int .i64 T.1, .int .i64 T.2.1] 23 ∧ Bn wx gK #[.int .i64 T.1, .int .i64 T.2.1] 23 ∧ (∃ y0 y1 y2 y3 y4 y5, Bn wx gS #[y0, y1, y2, y3, y4, y5] 25) ∧ (∃ y0 y1 y2 y3 y4 y5, Bn wx gR #[y0, y1, y2, y3, y4, y5] 25)) (fun vi _ => 2 - (intOf vi).toNat)
        case atStart => exact ⟨0, by omega, by omega, rfl, hB, bP, bQ, bGx, bD, bK, ⟨_, _, _, _, _, _, bS⟩, ⟨_, _, _, _, _, _, bR⟩⟩
        case round =>
          clear hB bP bQ bGx bD bK bS bR
          obtain ⟨j, j0, j2, rfl, hB, bP, bQ, bGx, bD, bK, ⟨o0, o1, o2, o3, o4, o5, bS⟩, ⟨t0, t1, t2, t3, t4, t5, bR⟩⟩ := hrel
          by_cases hj : j < 2
          · obtain ⟨c, Q, hi, hrun, m1, m2, zc⟩ := hidx.out j j0 hj
            clear hidx qM za zb
            have qM := fun w => eqV_self Q.x0 Q.x1 Q.y0 Q.y1 Q.z0 Q.z1 w
            have cP0 : wr.cell? ⟨p, 0, none⟩ = some (.int .i64 e0) := bP.cell 0 _ rfl
            have cP1 : wr.cell? ⟨p, 1, none⟩ = some (.int .i64 e1) := bP.cell 1 _ rfl
            have cP2 : wr.cell? ⟨p, 2, none⟩ = some (.int .i64 e2) := bP.cell 2 _ rfl
            have cP3 : wr.cell? ⟨p, 3, none⟩ = some (.int .i64 e3) := bP.cell 3 _ rfl
            have cP4 : wr.cell? ⟨p, 4, none⟩ = some (.int .i64 e4) := bP.cell 4 _ rfl
            have cP5 : wr.cell? ⟨p, 5, none⟩ = some (.int .i64 e5) := bP.cell 5 _ rfl
            have kP := bP.lt
            have cQ0 : wr.cell? ⟨q, 0, none⟩ = some (.int .i64 f0) := bQ.cell 0 _ rfl
            have cQ1 : wr.cell? ⟨q, 1, none⟩ = some (.int .i64 f1) := bQ.cell 1 _ rfl
            have cQ2 : wr.cell? ⟨q, 2, none⟩ = some (.int .i64 f2) := bQ.cell 2 _ rfl
            have cQ3 : wr.cell? ⟨q, 3, none⟩ = some (.int .i64 f3) := bQ.cell 3 _ rfl
            have cQ4 : wr.cell? ⟨q, 4, none⟩ = some (.int .i64 f4) := bQ.cell 4 _ rfl
            have cQ5 : wr.cell? ⟨q, 5, none⟩ = some (.int .i64 f5) := bQ.cell 5 _ rfl
            have kQ := bQ.lt
            go_wp2_with fail
            refine (m1 _).mono ?_
            rintro r u5 ⟨rfl, hb⟩
            replace bP := bP.keep hb
            replace bQ := bQ.keep hb
            replace bGx := bGx.keep hb
            replace bS := bS.keep hb
            replace bR := bR.keep hb
            replace bD := bD.keep hb
            replace bK := bK.keep hb
            replace hB := hB.trans (hb.mono (by have := hB.size; omega))
            clear hb cP0 cP1 cP2 cP3 cP4 cP5 kP cQ0 cQ1 cQ2 cQ3 cQ4 cQ5 kQ
            have zS0 : u5.frozen? ⟨gS, 0, none⟩ = false := bS.f 0
            have zS1 : u5.frozen? ⟨gS, 1, none⟩ = false := bS.f 1
            have zS2 : u5.frozen? ⟨gS, 2, none⟩ = false := bS.f 2
            have zS3 : u5.frozen? ⟨gS, 3, none⟩ = false := bS.f 3
            have zS4 : u5.frozen? ⟨gS, 4, none⟩ = false := bS.f 4
            have zS5 : u5.frozen? ⟨gS, 5, none⟩ = false := bS.f 5
            have kzS := bS.lt
            have rwS0 : u5.cell? ⟨gS, 0, none⟩ = some o0 := bS.cell 0 _ rfl
            have rwS1 : u5.cell? ⟨gS, 1, none⟩ = some o1 := bS.cell 1 _ rfl
            have rwS2 : u5.cell? ⟨gS, 2, none⟩ = some o2 := bS.cell 2 _ rfl
            have rwS3 : u5.cell? ⟨gS, 3, none⟩ = some o3 := bS.cell 3 _ rfl
            have rwS4 : u5.cell? ⟨gS, 4, none⟩ = some o4 := bS.cell 4 _ rfl
            have rwS5 : u5.cell? ⟨gS, 5, none⟩ = some o5 := bS.cell 5 _ rfl
            replace bP := bP.far6 (g := gS) (by omega) (.int .i64 Q.x0) (.int .i64 Q.x1) (.int .i64 Q.y0) (.int .i64 Q.y1) (.int .i64 Q.z0) (.int .i64 Q.z1)
            replace bQ := bQ.far6 (g := gS) (by omega) (.int .i64 Q.x0) (.int .i64 Q.x1) (.int .i64 Q.y0) (.int .i64 Q.y1) (.int .i64 Q.z0) (.int .i64 Q.z1)
            replace bGx := bGx.far6 (g := gS) (by omega) (.int .i64 Q.x0) (.int .i64 Q.x1) (.int .i64 Q.y0) (.int .i64 Q.y1) (.int .i64 Q.z0) (.int .i64 Q.z1)
            replace bS := bS.set6 (.int .i64 Q.x0) (.int .i64 Q.x1) (.int .i64 Q.y0) (.int .i64 Q.y1) (.int .i64 Q.z0) (.int .i64 Q.z1)
            replace bR := bR.far6 (g := gS) (by omega) (.int .i64 Q.x0) (.int .i64 Q.x1) (.int .i64 Q.y0) (.int .i64 Q.y1) (.int .i64 Q.z0) (.int .i64 Q.z1)
            replace bD := bD.far6 (g := gS) (by omega) (.int .i64 Q.x0) (.int .i64 Q.x1) (.int .i64 Q.y0) (.int .i64 Q.y1) (.int .i64 Q.z0) (.int .i64 Q.z1)
            replace bK := bK.far6 (g := gS) (by omega) (.int .i64 Q.x0) (.int .i64 Q.x1) (.int .i64 Q.y0) (.int .i64 Q.y1) (.int .i64 Q.z0) (.int .i64 Q.z1)
            replace hB := below6 hB (g := gS) (by omega) (.int .i64 Q.x0) (.int .i64 Q.x1) (.int .i64 Q.y0) (.int .i64 Q.y1) (.int .i64 Q.z0) (.int .i64 Q.z1)
            have cP0 : ((((((u5.setCell ⟨gS, 0, none⟩ (.int .i64 Q.x0)).setCell ⟨gS, 1, none⟩ (.int .i64 Q.x1)).setCell ⟨gS, 2, none⟩ (.int .i64 Q.y0)).setCell ⟨gS, 3, none⟩ (.int .i64 Q.y1)).setCell ⟨gS, 4, none⟩ (.int .i64 Q.z0)).setCell ⟨gS, 5, none⟩ (.int .i64 Q.z1)).cell? ⟨p, 0, none⟩ = some (.int .i64 e0) := bP.cell 0 _ rfl
            have cP1 : ((((((u5.setCell ⟨gS, 0, none⟩ (.int .i64 Q.x0)).setCell ⟨gS, 1, none⟩ (.int .i64 Q.x1)).setCell ⟨gS, 2, none⟩ (.int .i64 Q.y0)).setCell ⟨gS, 3, none⟩ (.int .i64 Q.y1)).setCell ⟨gS, 4, none⟩ (.int .i64 Q.z0)).setCell ⟨gS, 5, none⟩ (.int .i64 Q.z1)).cell? ⟨p, 1, none⟩ = some (.int .i64 e1) := bP.cell 1 _ rfl
            have cP2 : ((((((u5.setCell ⟨gS, 0, none⟩ (.int .i64 Q.x0)).setCell ⟨gS, 1, none⟩ (.int .i64 Q.x1)).setCell ⟨gS, 2, none⟩ (.int .i64 Q.y0)).setCell ⟨gS, 3, none⟩ (.int .i64 Q.y1)).setCell ⟨gS, 4, none⟩ (.int .i64 Q.z0)).setCell ⟨gS, 5, none⟩ (.int .i64 Q.z1)).cell? ⟨p, 2, none⟩ = some (.int .i64 e2) := bP.cell 2 _ rfl
            have cP3 : ((((((u5.setCell ⟨gS, 0, none⟩ (.int .i64 Q.x0)).setCell ⟨gS, 1, none⟩ (.int .i64 Q.x1)).setCell ⟨gS, 2, none⟩ (.int .i64 Q.y0)).setCell ⟨gS, 3, none⟩ (.int .i64 Q.y1)).setCell ⟨gS, 4, none⟩ (.int .i64 Q.z0)).setCell ⟨gS, 5, none⟩ (.int .i64 Q.z1)).cell? ⟨p, 3, none⟩ = some (.int .i64 e3) := bP.cell 3 _ rfl
            have cP4 : ((((((u5.setCell ⟨gS, 0, none⟩ (.int .i64 Q.x0)).setCell ⟨gS, 1, none⟩ (.int .i64 Q.x1)).setCell ⟨gS, 2, none⟩ (.int .i64 Q.y0)).setCell ⟨gS, 3, none⟩ (.int .i64 Q.y1)).setCell ⟨gS, 4, none⟩ (.int .i64 Q.z0)).setCell ⟨gS, 5, none⟩ (.int .i64 Q.z1)).cell? ⟨p, 4, none⟩ = some (.int .i64 e4) := bP.cell 4 _ rfl
            have cP5 : ((((((u5.setCell ⟨gS, 0, none⟩ (.int .i64 Q.x0)).setCell ⟨gS, 1, none⟩ (.int .i64 Q.x1)).setCell ⟨gS, 2, none⟩ (.int .i64 Q.y0)).setCell ⟨gS, 3, none⟩ (.int .i64 Q.y1)).setCell ⟨gS, 4, none⟩ (.int .i64 Q.z0)).setCell ⟨gS, 5, none⟩ (.int .i64 Q.z1)).cell? ⟨p, 5, none⟩ = some (.int .i64 e5) := bP.cell 5 _ rfl
            have kP := bP.lt
            have cQ0 : ((((((u5.setCell ⟨gS, 0, none⟩ (.int .i64 Q.x0)).setCell ⟨gS, 1, none⟩ (.int .i64 Q.x1)).setCell ⟨gS, 2, none⟩ (.int .i64 Q.y0)).setCell ⟨gS, 3, none⟩ (.int .i64 Q.y1)).setCell ⟨gS, 4, none⟩ (.int .i64 Q.z0)).setCell ⟨gS, 5, none⟩ (.int .i64 Q.z1)).cell? ⟨q, 0, none⟩ = some (.int .i64 f0) := bQ.cell 0 _ rfl
            have cQ1 : ((((((u5.setCell ⟨gS, 0, none⟩ (.int .i64 Q.x0)).setCell ⟨gS, 1, none⟩ (.int .i64 Q.x1)).setCell ⟨gS, 2, none⟩ (.int .i64 Q.y0)).setCell ⟨gS, 3, none⟩ (.int .i64 Q.y1)).setCell ⟨gS, 4, none⟩ (.int .i64 Q.z0)).setCell ⟨gS, 5, none⟩ (.int .i64 Q.z1)).cell? ⟨q, 1, none⟩ = some (.int .i64 f1) := bQ.cell 1 _ rfl
            have cQ2 : ((((((u5.setCell ⟨gS, 0, none⟩ (.int .i64 Q.x0)).setCell ⟨gS, 1, none⟩ (.int .i64 Q.x1)).setCell ⟨gS, 2, none⟩ (.int .i64 Q.y0)).setCell ⟨gS, 3, none⟩ (.int .i64 Q.y1)).setCell ⟨gS, 4, none⟩ (.int .i64 Q.z0)).setCell ⟨gS, 5, none⟩ (.int .i64 Q.z1)).cell? ⟨q, 2, none⟩ = some (.int .i64 f2) := bQ.cell 2 _ rfl
            have cQ3 : ((((((u5.setCell ⟨gS, 0, none⟩ (.int .i64 Q.x0)).setCell ⟨gS, 1, none⟩ (.int .i64 Q.x1)).setCell ⟨gS, 2, none⟩ (.int .i64 Q.y0)).setCell ⟨gS, 3, none⟩ (.int .i64 Q.y1)).setCell ⟨gS, 4, none⟩ (.int .i64 Q.z0)).setCell ⟨gS, 5, none⟩ (.int .i64 Q.z1)).cell? ⟨q, 3, none⟩ = some (.int .i64 f3) := bQ.cell 3 _ rfl
            have cQ4 : ((((((u5.setCell ⟨gS, 0, none⟩ (.int .i64 Q.x0)).setCell ⟨gS, 1, none⟩ (.int .i64 Q.x1)).setCell ⟨gS, 2, none⟩ (.int .i64 Q.y0)).setCell ⟨gS, 3, none⟩ (.int .i64 Q.y1)).setCell ⟨gS, 4, none⟩ (.int .i64 Q.z0)).setCell ⟨gS, 5, none⟩ (.int .i64 Q.z1)).cell? ⟨q, 4, none⟩ = some (.int .i64 f4) := bQ.cell 4 _ rfl
            have cQ5 : ((((((u5.setCell ⟨gS, 0, none⟩ (.int .i64 Q.x0)).setCell ⟨gS, 1, none⟩ (.int .i64 Q.x1)).setCell ⟨gS, 2, none⟩ (.int .i64 Q.y0)).setCell ⟨gS, 3, none⟩ (.int .i64 Q.y1)).setCell ⟨gS, 4, none⟩ (.int .i64 Q.z0)).setCell ⟨gS, 5, none⟩ (.int .i64 Q.z1)).cell? ⟨q, 5, none⟩ = some (.int .i64 f5) := bQ.cell 5 _ rfl
            have kQ := bQ.lt
            go_wp2_with fail
            refine (m2 _).mono ?_
            rintro r u6 ⟨rfl, hb⟩
            clear zS0 rwS0 zS1 rwS1 zS2 rwS2 zS3 rwS3 zS4 rwS4 zS5 rwS5 kzS
            replace bP := bP.keep hb
            replace bQ := bQ.keep hb
            replace bGx := bGx.keep hb
            replace bS := bS.keep hb
            replace bR := bR.keep hb
            replace bD := bD.keep hb
            replace bK := bK.keep hb
            replace hB := hB.trans (hb.mono (by have := hB.size; omega))
            clear hb cP0 cP1 cP2 cP3 cP4 cP5 kP cQ0 cQ1 cQ2 cQ3 cQ4 cQ5 kQ
            have zR0 : u6.frozen? ⟨gR, 0, none⟩ = false := bR.f 0
            have zR1 : u6.frozen? ⟨gR, 1, none⟩ = false := bR.f 1
            have zR2 : u6.frozen? ⟨gR, 2, none⟩ = false := bR.f 2
            have zR3 : u6.frozen? ⟨gR, 3, none⟩ = false := bR.f 3
            have zR4 : u6.frozen? ⟨gR, 4, none⟩ = false := bR.f 4
            have zR5 : u6.frozen? ⟨gR, 5, none⟩ = false := bR.f 5
            have kzR := bR.lt
            have rwR0 : u6.cell? ⟨gR, 0, none⟩ = some t0 := bR.cell 0 _ rfl
            have rwR1 : u6.cell? ⟨gR, 1, none⟩ = some t1 := bR.cell 1 _ rfl
            have rwR2 : u6.cell? ⟨gR, 2, none⟩ = some t2 := bR.cell 2 _ rfl
            have rwR3 : u6.cell? ⟨gR, 3, none⟩ = some t3 := bR.cell 3 _ rfl
            have rwR4 : u6.cell? ⟨gR, 4, none⟩ = some t4 := bR.cell 4 _ rfl
            have rwR5 : u6.cell? ⟨gR, 5, none⟩ = some t5 := bR.cell 5 _ rfl
            replace bP := bP.far6 (g := gR) (by omega) (.int .i64 (-Q.x1)) (.int .i64 (-Q.x0)) (.int .i64 (-Q.y1)) (.int .i64 (-Q.y0)) (.int .i64 (-Q.z1)) (.int .i64 (-Q.z0))
            replace bQ := bQ.far6 (g := gR) (by omega) (.int .i64 (-Q.x1)) (.int .i64 (-Q.x0)) (.int .i64 (-Q.y1)) (.int .i64 (-Q.y0)) (.int .i64 (-Q.z1)) (.int .i64 (-Q.z0))
            replace bGx := bGx.far6 (g := gR) (by omega) (.int .i64 (-Q.x1)) (.int .i64 (-Q.x0)) (.int .i64 (-Q.y1)) (.int .i64 (-Q.y0)) (.int .i64 (-Q.z1)) (.int .i64 (-Q.z0))
            replace bS := bS.far6 (g := gR) (by omega) (.int .i64 (-Q.x1)) (.int .i64 (-Q.x0)) (.int .i64 (-Q.y1)) (.int .i64 (-Q.y0)) (.int .i64 (-Q.z1)) (.int .i64 (-Q.z0))
            replace bR := bR.set6 (.int .i64 (-Q.x1)) (.int .i64 (-Q.x0)) (.int .i64 (-Q.y1)) (.int .i64 (-Q.y0)) (.int .i64 (-Q.z1)) (.int .i64 (-Q.z0))
            replace bD := bD.far6 (g := gR) (by omega) (.int .i64 (-Q.x1)) (.int .i64 (-Q.x0)) (.int .i64 (-Q.y1)) (.int .i64 (-Q.y0)) (.int .i64 (-Q.z1)) (.int .i64 (-Q.z0))
            replace bK := bK.far6 (g := gR) (by omega) (.int .i64 (-Q.x1)) (.int .i64 (-Q.x0)) (.int .i64 (-Q.y1)) (.int .i64 (-Q.y0)) (.int .i64 (-Q.z1)) (.int .i64 (-Q.z0))
            replace hB := below6 hB (g := gR) (by omega) (.int .i64 (-Q.x1)) (.int .i64 (-Q.x0)) (.int .i64 (-Q.y1)) (.int .i64 (-Q.y0)) (.int .i64 (-Q.z1)) (.int .i64 (-Q.z0))
            have cR0 : ((((((u6.setCell ⟨gR, 0, none⟩ (.int .i64 (-Q.x1))).setCell ⟨gR, 1, none⟩ (.int .i64 (-Q.x0))).setCell ⟨gR, 2, none⟩ (.int .i64 (-Q.y1))).setCell ⟨gR, 3, none⟩ (.int .i64 (-Q.y0))).setCell ⟨gR, 4, none⟩ (.int .i64 (-Q.z1))).setCell ⟨gR, 5, none⟩ (.int .i64 (-Q.z0))).cell? ⟨gR, 0, none⟩ = some (.int .i64 (-Q.x1)) := bR.cell 0 _ rfl
            have cR1 : ((((((u6.setCell ⟨gR, 0, none⟩ (.int .i64 (-Q.x1))).setCell ⟨gR, 1, none⟩ (.int .i64 (-Q.x0))).setCell ⟨gR, 2, none⟩ (.int .i64 (-Q.y1))).setCell ⟨gR, 3, none⟩ (.int .i64 (-Q.y0))).setCell ⟨gR, 4, none⟩ (.int .i64 (-Q.z1))).setCell ⟨gR, 5, none⟩ (.int .i64 (-Q.z0))).cell? ⟨gR, 1, none⟩ = some (.int .i64 (-Q.x0)) := bR.cell 1 _ rfl
            have cR2 : ((((((u6.setCell ⟨gR, 0, none⟩ (.int .i64 (-Q.x1))).setCell ⟨gR, 1, none⟩ (.int .i64 (-Q.x0))).setCell ⟨gR, 2, none⟩ (.int .i64 (-Q.y1))).setCell ⟨gR, 3, none⟩ (.int .i64 (-Q.y0))).setCell ⟨gR, 4, none⟩ (.int .i64 (-Q.z1))).setCell ⟨gR, 5, none⟩ (.int .i64 (-Q.z0))).cell? ⟨gR, 2, none⟩ = some (.int .i64 (-Q.y1)) := bR.cell 2 _ rfl
            have cR3 : ((((((u6.setCell ⟨gR, 0, none⟩ (.int .i64 (-Q.x1))).setCell ⟨gR, 1, none⟩ (.int .i64 (-Q.x0))).setCell ⟨gR, 2, none⟩ (.int .i64 (-Q.y1))).setCell ⟨gR, 3, none⟩ (.int .i64 (-Q.y0))).setCell ⟨gR, 4, none⟩ (.int .i64 (-Q.z1))).setCell ⟨gR, 5, none⟩ (.int .i64 (-Q.z0))).cell? ⟨gR, 3, none⟩ = some (.int .i64 (-Q.y0)) := bR.cell 3 _ rfl
            have cR4 : ((((((u6.setCell ⟨gR, 0, none⟩ (.int .i64 (-Q.x1))).setCell ⟨gR, 1, none⟩ (.int .i64 (-Q.x0))).setCell ⟨gR, 2, none⟩ (.int .i64 (-Q.y1))).setCell ⟨gR, 3, none⟩ (.int .i64 (-Q.y0))).setCell ⟨gR, 4, none⟩ (.int .i64 (-Q.z1))).setCell ⟨gR, 5, none⟩ (.int .i64 (-Q.z0))).cell? ⟨gR, 4, none⟩ = some (.int .i64 (-Q.z1)) := bR.cell 4 _ rfl
            have cR5 : ((((((u6.setCell ⟨gR, 0, none⟩ (.int .i64 (-Q.x1))).setCell ⟨gR, 1, none⟩ (.int .i64 (-Q.x0))).setCell ⟨gR, 2, none⟩ (.int .i64 (-Q.y1))).setCell ⟨gR, 3, none⟩ (.int .i64 (-Q.y0))).setCell ⟨gR, 4, none⟩ (.int .i64 (-Q.z1))).setCell ⟨gR, 5, none⟩ (.int .i64 (-Q.z0))).cell? ⟨gR, 5, none⟩ = some (.int .i64 (-Q.z0)) := bR.cell 5 _ rfl
            have kR := bR.lt
            go_wp2_with fail
            go_at_call 18
            refine (zc _).mono ?_
            rintro r u7 ⟨rfl, hb⟩
            clear zR0 rwR0 zR1 rwR1 zR2 rwR2 zR3 rwR3 zR4 rwR4 zR5 rwR5 kzR
            replace bP := bP.keep hb
            replace bQ := bQ.keep hb
            replace bGx := bGx.keep hb
            replace bS := bS.keep hb
            replace bR := bR.keep hb
            replace bD := bD.keep hb
            replace bK := bK.keep hb
            replace hB := hB.trans (hb.mono (by have := hB.size; omega))
            clear hb cR0 cR1 cR2 cR3 cR4 cR5 kR
            have lP := bP.lt
            have lQ := bQ.lt
            have lGx := bGx.lt
            have lS := bS.lt
            have lR := bR.lt
            have lD := bD.lt
            have lK := bK.lt
            have hsz : n ≤ u7.heap.size := by have := hB.size; omega
            have bN := Bn.new u7 #[.int .i64 Q.x0, .int .i64 Q.x1, .int .i64 Q.y0, .int .i64 Q.y1, .int .i64 Q.z0, .int .i64 Q.z1] 25
            replace bP := bP.alloc (.cells #[.int .i64 Q.x0, .int .i64 Q.x1, .int .i64 Q.y0, .int .i64 Q.y1, .int .i64 Q.z0, .int .i64 Q.z1] 25)
            replace bQ := bQ.alloc (.cells #[.int .i64 Q.x0, .int .i64 Q.x1, .int .i64 Q.y0, .int .i64 Q.y1, .int .i64 Q.z0, .int .i64 Q.z1] 25)
            replace bGx := bGx.alloc (.cells #[.int .i64 Q.x0, .int .i64 Q.x1, .int .i64 Q.y0, .int .i64 Q.y1, .int .i64 Q.z0, .int .i64 Q.z1] 25)
            replace bS := bS.alloc (.cells #[.int .i64 Q.x0, .int .i64 Q.x1, .int .i64 Q.y0, .int .i64 Q.y1, .int .i64 Q.z0, .int .i64 Q.z1] 25)
            replace bR := bR.alloc (.cells #[.int .i64 Q.x0, .int .i64 Q.x1, .int .i64 Q.y0, .int .i64 Q.y1, .int .i64 Q.z0, .int .i64 Q.z1] 25)
            replace bD := bD.alloc (.cells #[.int .i64 Q.x0, .int .i64 Q.x1, .int .i64 Q.y0, .int .i64 Q.y1, .int .i64 Q.z0, .int .i64 Q.z1] 25)
            replace bK := bK.alloc (.cells #[.int .i64 Q.x0, .int .i64 Q.x1, .int .i64 Q.y0, .int .i64 Q.y1, .int .i64 Q.z0, .int .i64 Q.z1] 25)
            replace hB := hB.alloc hsz (.cells #[.int .i64 Q.x0, .int .i64 Q.x1, .int .i64 Q.y0, .int .i64 Q.y1, .int .i64 Q.z0, .int .i64 Q.z1] 25)
            have cS0 : (u7.alloc (.cells #[.int .i64 Q.x0, .int .i64 Q.x1, .int .i64 Q.y0, .int .i64 Q.y1, .int .i64 Q.z0, .int .i64 Q.z1] 25)).cell? ⟨gS, 0, none⟩ = some (.int .i64 Q.x0) := bS.cell 0 _ rfl
            have cS1 : (u7.alloc (.cells #[.int .i64 Q.x0, .int .i64 Q.x1, .int .i64 Q.y0, .int .i64 Q.y1, .int .i64 Q.z0, .int .i64 Q.z1] 25)).cell? ⟨gS, 1, none⟩ = some (.int .i64 Q.x1) := bS.cell 1 _ rfl
            have cS2 : (u7.alloc (.cells #[.int .i64 Q.x0, .int .i64 Q.x1, .int .i64 Q.y0, .int .i64 Q.y1, .int .i64 Q.z0, .int .i64 Q.z1] 25)).cell? ⟨gS, 2, none⟩ = some (.int .i64 Q.y0) := bS.cell 2 _ rfl
            have cS3 : (u7.alloc (.cells #[.int .i64 Q.x0, .int .i64 Q.x1, .int .i64 Q.y0, .int .i64 Q.y1, .int .i64 Q.z0, .int .i64 Q.z1] 25)).cell? ⟨gS, 3, none⟩ = some (.int .i64 Q.y1) := bS.cell 3 _ rfl
            have cS4 : (u7.alloc (.cells #[.int .i64 Q.x0, .int .i64 Q.x1, .int .i64 Q.y0, .int .i64 Q.y1, .int .i64 Q.z0, .int .i64 Q.z1] 25)).cell? ⟨gS, 4, none⟩ = some (.int .i64 Q.z0) := bS.cell 4 _ rfl
            have cS5 : (u7.alloc (.cells #[.int .i64 Q.x0, .int .i64 Q.x1, .int .i64 Q.y0, .int .i64 Q.y1, .int .i64 Q.z0, .int .i64 Q.z1] 25)).cell? ⟨gS, 5, none⟩ = some (.int .i64 Q.z1) := bS.cell 5 _ rfl
            have kS := bS.lt
            have cN0 : (u7.alloc (.cells #[.int .i64 Q.x0, .int .i64 Q.x1, .int .i64 Q.y0, .int .i64 Q.y1, .int .i64 Q.z0, .int .i64 Q.z1] 25)).cell? ⟨u7.heap.size, 0, none⟩ = some (.int .i64 Q.x0) := bN.cell 0 _ rfl
            have cN1 : (u7.alloc (.cells #[.int .i64 Q.x0, .int .i64 Q.x1, .int .i64 Q.y0, .int .i64 Q.y1, .int .i64 Q.z0, .int .i64 Q.z1] 25)).cell? ⟨u7.heap.size, 1, none⟩ = some (.int .i64 Q.x1) := bN.cell 1 _ rfl
            have cN2 : (u7.alloc (.cells #[.int .i64 Q.x0, .int .i64 Q.x1, .int .i64 Q.y0, .int .i64 Q.y1, .int .i64 Q.z0, .int .i64 Q.z1] 25)).cell? ⟨u7.heap.size, 2, none⟩ = some (.int .i64 Q.y0) := bN.cell 2 _ rfl
            have cN3 : (u7.alloc (.cells #[.int .i64 Q.x0, .int .i64 Q.x1, .int .i64 Q.y0, .int .i64 Q.y1, .int .i64 Q.z0, .int .i64 Q.z1] 25)).cell? ⟨u7.heap.size, 3, none⟩ = some (.int .i64 Q.y1) := bN.cell 3 _ rfl
            have cN4 : (u7.alloc (.cells #[.int .i64 Q.x0, .int .i64 Q.x1, .int .i64 Q.y0, .int .i64 Q.y1, .int .i64 Q.z0, .int .i64 Q.z1] 25)).cell? ⟨u7.heap.size, 4, none⟩ = some (.int .i64 Q.z0) := bN.cell 4 _ rfl
            have cN5 : (u7.alloc (.cells #[.int .i64 Q.x0, .int .i64 Q.x1, .int .i64 Q.y0, .int .i64 Q.y1, .int .i64 Q.z0, .int .i64 Q.z1] 25)).cell? ⟨u7.heap.size, 5, none⟩ = some (.int .i64 Q.z1) := bN.cell 5 _ rfl
            have kN := bN.lt
            by_cases he : Q.e = 0
            · rw [he]
              go_wp2_with fail
              go_roundw
              case rel => exact ⟨j + 1, by omega, by omega, by go_num, hB, bP, bQ, bGx, bD, bK, ⟨_, _, _, _, _, _, bS⟩, ⟨_, _, _, _, _, _, bR⟩⟩
              case measure => simp [intOf]; omega
            · have he' : (Q.e == 0) = false := beq_eq_false_iff_ne.2 he
              go_wp2_with fail
              go_roundw
              case rel => exact ⟨j + 1, by omega, by omega, by go_num, hB, bP, bQ, bGx, bD, bK, ⟨_, _, _, _, _, _, bS⟩, ⟨_, _, _, _, _, _, bR⟩⟩
              case measure => simp [intOf]; omega
          · clear hidx
            have cQ0 : wr.cell? ⟨q, 0, none⟩ = some (.int .i64 f0) := bQ.cell 0 _ rfl
            have cQ1 : wr.cell? ⟨q, 1, none⟩ = some (.int .i64 f1) := bQ.cell 1 _ rfl
            have cQ2 : wr.cell? ⟨q, 2, none⟩ = some (.int .i64 f2) := bQ.cell 2 _ rfl
            have cQ3 : wr.cell? ⟨q, 3, none⟩ = some (.int .i64 f3) := bQ.cell 3 _ rfl
            have cQ4 : wr.cell? ⟨q, 4, none⟩ = some (.int .i64 f4) := bQ.cell 4 _ rfl
            have cQ5 : wr.cell? ⟨q, 5, none⟩ = some (.int .i64 f5) := bQ.cell 5 _ rfl
            have kQ := bQ.lt
            go_wp2_with fail
            go_at_call 18
            refine (za _).mono ?_
            rintro r u8 ⟨rfl, hb⟩
            replace bP := bP.keep hb
            replace bQ := bQ.keep hb
            replace bGx := bGx.keep hb
            replace bS := bS.keep hb
            replace bR := bR.keep hb
            replace bD := bD.keep hb
            replace bK := bK.keep hb
            replace hB := hB.trans (hb.mono (by have := hB.size; omega))
            clear hb cQ0 cQ1 cQ2 cQ3 cQ4 cQ5 kQ
            have lP := bP.lt
            have lQ := bQ.lt
            have lGx := bGx.lt
            have lS := bS.lt
            have lR := bR.lt
            have lD := bD.lt
            have lK := bK.lt
            have hsz : n ≤ u8.heap.size := by have := hB.size; omega
            have bN := Bn.new u8 #[.int .i64 (-f1), .int .i64 (-f0), .int .i64 (-f3), .int .i64 (-f2), .int .i64 (-f5), .int .i64 (-f4)] 25
            replace bP := bP.alloc (.cells #[.int .i64 (-f1), .int .i64 (-f0), .int .i64 (-f3), .int .i64 (-f2), .int .i64 (-f5), .int .i64 (-f4)] 25)
            replace bQ := bQ.alloc (.cells #[.int .i64 (-f1), .int .i64 (-f0), .int .i64 (-f3), .int .i64 (-f2), .int .i64 (-f5), .int .i64 (-f4)] 25)
            replace bGx := bGx.alloc (.cells #[.int .i64 (-f1), .int .i64 (-f0), .int .i64 (-f3), .int .i64 (-f2), .int .i64 (-f5), .int .i64 (-f4)] 25)
            replace bS := bS.alloc (.cells #[.int .i64 (-f1), .int .i64 (-f0), .int .i64 (-f3), .int .i64 (-f2), .int .i64 (-f5), .int .i64 (-f4)] 25)
            replace bR := bR.alloc (.cells #[.int .i64 (-f1), .int .i64 (-f0), .int .i64 (-f3), .int .i64 (-f2), .int .i64 (-f5), .int .i64 (-f4)] 25)
            replace bD := bD.alloc (.cells #[.int .i64 (-f1), .int .i64 (-f0), .int .i64 (-f3), .int .i64 (-f2), .int .i64 (-f5), .int .i64 (-f4)] 25)
            replace bK := bK.alloc (.cells #[.int .i64 (-f1), .int .i64 (-f0), .int .i64 (-f3), .int .i64 (-f2), .int .i64 (-f5), .int .i64 (-f4)] 25)
            replace hB := hB.alloc hsz (.cells #[.int .i64 (-f1), .int .i64 (-f0), .int .i64 (-f3), .int .i64 (-f2), .int .i64 (-f5), .int .i64 (-f4)] 25)
            have cP0 : (u8.alloc (.cells #[.int .i64 (-f1), .int .i64 (-f0), .int .i64 (-f3), .int .i64 (-f2), .int .i64 (-f5), .int .i64 (-f4)] 25)).cell? ⟨p, 0, none⟩ = some (.int .i64 e0) := bP.cell 0 _ rfl
            have cP1 : (u8.alloc (.cells #[.int .i64 (-f1), .int .i64 (-f0), .int .i64 (-f3), .int .i64 (-f2), .int .i64 (-f5), .int .i64 (-f4)] 25)).cell? ⟨p, 1, none⟩ = some (.int .i64 e1) := bP.cell 1 _ rfl
            have cP2 : (u8.alloc (.cells #[.int .i64 (-f1), .int .i64 (-f0), .int .i64 (-f3), .int .i64 (-f2), .int .i64 (-f5), .int .i64 (-f4)] 25)).cell? ⟨p, 2, none⟩ = some (.int .i64 e2) := bP.cell 2 _ rfl
            have cP3 : (u8.alloc (.cells #[.int .i64 (-f1), .int .i64 (-f0), .int .i64 (-f3), .int .i64 (-f2), .int .i64 (-f5), .int .i64 (-f4)] 25)).cell? ⟨p, 3, none⟩ = some (.int .i64 e3) := bP.cell 3 _ rfl
            have cP4 : (u8.alloc (.cells #[.int .i64 (-f1), .int .i64 (-f0), .int .i64 (-f3), .int .i64 (-f2), .int .i64 (-f5), .int .i64 (-f4)] 25)).cell? ⟨p, 4, none⟩ = some (.int .i64 e4) := bP.cell 4 _ rfl
            have cP5 : (u8.alloc (.cells #[.int .i64 (-f1), .int .i64 (-f0), .int .i64 (-f3), .int .i64 (-f2), .int .i64 (-f5), .int .i64 (-f4)] 25)).cell? ⟨p, 5, none⟩ = some (.int .i64 e5) := bP.cell 5 _ rfl
            have kP := bP.lt
            have cN0 : (u8.alloc (.cells #[.int .i64 (-f1), .int .i64 (-f0), .int .i64 (-f3), .int .i64 (-f2), .int .i64 (-f5), .int .i64 (-f4)] 25)).cell? ⟨u8.heap.size, 0, none⟩ = some (.int .i64 (-f1)) := bN.cell 0 _ rfl
            have cN1 : (u8.alloc (.cells #[.int .i64 (-f1), .int .i64 (-f0), .int .i64 (-f3), .int .i64 (-f2), .int .i64 (-f5), .int .i64 (-f4)] 25)).cell? ⟨u8.heap.size, 1, none⟩ = some (.int .i64 (-f0)) := bN.cell 1 _ rfl
            have cN2 : (u8.alloc (.cells #[.int .i64 (-f1), .int .i64 (-f0), .int .i64 (-f3), .int .i64 (-f2), .int .i64 (-f5), .int .i64 (-f4)] 25)).cell? ⟨u8.heap.size, 2, none⟩ = some (.int .i64 (-f3)) := bN.cell 2 _ rfl
            have cN3 : (u8.alloc (.cells #[.int .i64 (-f1), .int .i64 (-f0), .int .i64 (-f3), .int .i64 (-f2), .int .i64 (-f5), .int .i64 (-f4)] 25)).cell? ⟨u8.heap.size, 3, none⟩ = some (.int .i64 (-f2)) := bN.cell 3 _ rfl
            have cN4 : (u8.alloc (.cells #[.int .i64 (-f1), .int .i64 (-f0), .int .i64 (-f3), .int .i64 (-f2), .int .i64 (-f5), .int .i64 (-f4)] 25)).cell? ⟨u8.heap.size, 4, none⟩ = some (.int .i64 (-f5)) := bN.cell 4 _ rfl
            have cN5 : (u8.alloc (.cells #[.int .i64 (-f1), .int .i64 (-f0), .int .i64 (-f3), .int .i64 (-f2), .int .i64 (-f5), .int .i64 (-f4)] 25)).cell? ⟨u8.heap.size, 5, none⟩ = some (.int .i64 (-f4)) := bN.cell 5 _ rfl
            have kN := bN.lt
            go_wp2_with fail
            go_at_call 10
            refine (zb _).mono ?_
            rintro r u9 ⟨rfl, hb⟩
            replace bP := bP.keep hb
            replace bQ := bQ.keep hb
            replace bGx := bGx.keep hb
            replace bS := bS.keep hb
            replace bR := bR.keep hb
            replace bD := bD.keep hb
            replace bK := bK.keep hb
            replace bN := bN.keep hb
            replace hB := hB.trans (hb.mono (by have := hB.size; omega))
            clear hb cP0 cP1 cP2 cP3 cP4 cP5 kP cN0 cN1 cN2 cN3 cN4 cN5 kN
            generalize u8.heap.size = gN at *
            clear hsz
            have zS0 : u9.frozen? ⟨gS, 0, none⟩ = false := bS.f 0
            have zS1 : u9.frozen? ⟨gS, 1, none⟩ = false := bS.f 1
            have zS2 : u9.frozen? ⟨gS, 2, none⟩ = false := bS.f 2
            have zS3 : u9.frozen? ⟨gS, 3, none⟩ = false := bS.f 3
            have zS4 : u9.frozen? ⟨gS, 4, none⟩ = false := bS.f 4
            have zS5 : u9.frozen? ⟨gS, 5, none⟩ = false := bS.f 5
            have kzS := bS.lt
            have rwS0 : u9.cell? ⟨gS, 0, none⟩ = some o0 := bS.cell 0 _ rfl
            have rwS1 : u9.cell? ⟨gS, 1, none⟩ = some o1 := bS.cell 1 _ rfl
            have rwS2 : u9.cell? ⟨gS, 2, none⟩ = some o2 := bS.cell 2 _ rfl
            have rwS3 : u9.cell? ⟨gS, 3, none⟩ = some o3 := bS.cell 3 _ rfl
            have rwS4 : u9.cell? ⟨gS, 4, none⟩ = some o4 := bS.cell 4 _ rfl
            have rwS5 : u9.cell? ⟨gS, 5, none⟩ = some o5 := bS.cell 5 _ rfl
            replace bP := bP.far6 (g := gS) (by omega) (.int .i64 M.x0) (.int .i64 M.x1) (.int .i64 M.y0) (.int .i64 M.y1) (.int .i64 M.z0) (.int .i64 M.z1)
            replace bQ := bQ.far6 (g := gS) (by omega) (.int .i64 M.x0) (.int .i64 M.x1) (.int .i64 M.y0) (.int .i64 M.y1) (.int .i64 M.z0) (.int .i64 M.z1)
            replace bGx := bGx.far6 (g := gS) (by omega) (.int .i64 M.x0) (.int .i64 M.x1) (.int .i64 M.y0) (.int .i64 M.y1) (.int .i64 M.z0) (.int .i64 M.z1)
            replace bS := bS.set6 (.int .i64 M.x0) (.int .i64 M.x1) (.int .i64 M.y0) (.int .i64 M.y1) (.int .i64 M.z0) (.int .i64 M.z1)
            replace bR := bR.far6 (g := gS) (by omega) (.int .i64 M.x0) (.int .i64 M.x1) (.int .i64 M.y0) (.int .i64 M.y1) (.int .i64 M.z0) (.int .i64 M.z1)
            replace bD := bD.far6 (g := gS) (by omega) (.int .i64 M.x0) (.int .i64 M.x1) (.int .i64 M.y0) (.int .i64 M.y1) (.int .i64 M.z0) (.int .i64 M.z1)
            replace bK := bK.far6 (g := gS) (by omega) (.int .i64 M.x0) (.int .i64 M.x1) (.int .i64 M.y0) (.int .i64 M.y1) (.int .i64 M.z0) (.int .i64 M.z1)
            replace bN := bN.far6 (g := gS) (by omega) (.int .i64 M.x0) (.int .i64 M.x1) (.int .i64 M.y0) (.int .i64 M.y1) (.int .i64 M.z0) (.int .i64 M.z1)
            replace hB := below6 hB (g := gS) (by omega) (.int .i64 M.x0) (.int .i64 M.x1) (.int .i64 M.y0) (.int .i64 M.y1) (.int .i64 M.z0) (.int .i64 M.z1)
            have cP0 : ((((((u9.setCell ⟨gS, 0, none⟩ (.int .i64 M.x0)).setCell ⟨gS, 1, none⟩ (.int .i64 M.x1)).setCell ⟨gS, 2, none⟩ (.int .i64 M.y0)).setCell ⟨gS, 3, none⟩ (.int .i64 M.y1)).setCell ⟨gS, 4, none⟩ (.int .i64 M.z0)).setCell ⟨gS, 5, none⟩ (.int .i64 M.z1)).cell? ⟨p, 0, none⟩ = some (.int .i64 e0) := bP.cell 0 _ rfl
            have cP1 : ((((((u9.setCell ⟨gS, 0, none⟩ (.int .i64 M.x0)).setCell ⟨gS, 1, none⟩ (.int .i64 M.x1)).setCell ⟨gS, 2, none⟩ (.int .i64 M.y0)).setCell ⟨gS, 3, none⟩ (.int .i64 M.y1)).setCell ⟨gS, 4, none⟩ (.int .i64 M.z0)).setCell ⟨gS, 5, none⟩ (.int .i64 M.z1)).cell? ⟨p, 1, none⟩ = some (.int .i64 e1) := bP.cell 1 _ rfl
            have cP2 : ((((((u9.setCell ⟨gS, 0, none⟩ (.int .i64 M.x0)).setCell ⟨gS, 1, none⟩ (.int .i64 M.x1)).setCell ⟨gS, 2, none⟩ (.int .i64 M.y0)).setCell ⟨gS, 3, none⟩ (.int .i64 M.y1)).setCell ⟨gS, 4, none⟩ (.int .i64 M.z0)).setCell ⟨gS, 5, none⟩ (.int .i64 M.z1)).cell? ⟨p, 2, none⟩ = some (.int .i64 e2) := bP.cell 2 _ rfl
            have cP3 : ((((((u9.setCell ⟨gS, 0, none⟩ (.int .i64 M.x0)).setCell ⟨gS, 1, none⟩ (.int .i64 M.x1)).setCell ⟨gS, 2, none⟩ (.int .i64 M.y0)).setCell ⟨gS, 3, none⟩ (.int .i64 M.y1)).setCell ⟨gS, 4, none⟩ (.int .i64 M.z0)).setCell ⟨gS, 5, none⟩ (.int .i64 M.z1)).cell? ⟨p, 3, none⟩ = some (.int .i64 e3) := bP.cell 3 _ rfl
            have cP4 : ((((((u9.setCell ⟨gS, 0, none⟩ (.int .i64 M.x0)).setCell ⟨gS, 1, none⟩ (.int .i64 M.x1)).setCell ⟨gS, 2, none⟩ (.int .i64 M.y0)).setCell ⟨gS, 3, none⟩ (.int .i64 M.y1)).setCell ⟨gS, 4, none⟩ (.int .i64 M.z0)).setCell ⟨gS, 5, none⟩ (.int .i64 M.z1)).cell? ⟨p, 4, none⟩ = some (.int .i64 e4) := bP.cell 4 _ rfl
            have cP5 : ((((((u9.setCell ⟨gS, 0, none⟩ (.int .i64 M.x0)).setCell ⟨gS, 1, none⟩ (.int .i64 M.x1)).setCell ⟨gS, 2, none⟩ (.int .i64 M.y0)).setCell ⟨gS, 3, none⟩ (.int .i64 M.y1)).setCell ⟨gS, 4, none⟩ (.int .i64 M.z0)).setCell ⟨gS, 5, none⟩ (.int .i64 M.z1)).cell? ⟨p, 5, none⟩ = some (.int .i64 e5) := bP.cell 5 _ rfl
            have kP := bP.lt
            have cQ0 : ((((((u9.setCell ⟨gS, 0, none⟩ (.int .i64 M.x0)).setCell ⟨gS, 1, none⟩ (.int .i64 M.x1)).setCell ⟨gS, 2, none⟩ (.int .i64 M.y0)).setCell ⟨gS, 3, none⟩ (.int .i64 M.y1)).setCell ⟨gS, 4, none⟩ (.int .i64 M.z0)).setCell ⟨gS, 5, none⟩ (.int .i64 M.z1)).cell? ⟨q, 0, none⟩ = some (.int .i64 f0) := bQ.cell 0 _ rfl
            have cQ1 : ((((((u9.setCell ⟨gS, 0, none⟩ (.int .i64 M.x0)).setCell ⟨gS, 1, none⟩ (.int .i64 M.x1)).setCell ⟨gS, 2, none⟩ (.int .i64 M.y0)).setCell ⟨gS, 3, none⟩ (.int .i64 M.y1)).setCell ⟨gS, 4, none⟩ (.int .i64 M.z0)).setCell ⟨gS, 5, none⟩ (.int .i64 M.z1)).cell? ⟨q, 1, none⟩ = some (.int .i64 f1) := bQ.cell 1 _ rfl
            have cQ2 : ((((((u9.setCell ⟨gS, 0, none⟩ (.int .i64 M.x0)).setCell ⟨gS, 1, none⟩ (.int .i64 M.x1)).setCell ⟨gS, 2, none⟩ (.int .i64 M.y0)).setCell ⟨gS, 3, none⟩ (.int .i64 M.y1)).setCell ⟨gS, 4, none⟩ (.int .i64 M.z0)).setCell ⟨gS, 5, none⟩ (.int .i64 M.z1)).cell? ⟨q, 2, none⟩ = some (.int .i64 f2) := bQ.cell 2 _ rfl
            have cQ3 : ((((((u9.setCell ⟨gS, 0, none⟩ (.int .i64 M.x0)).setCell ⟨gS, 1, none⟩ (.int .i64 M.x1)).setCell ⟨gS, 2, none⟩ (.int .i64 M.y0)).setCell ⟨gS, 3, none⟩ (.int .i64 M.y1)).setCell ⟨gS, 4, none⟩ (.int .i64 M.z0)).setCell ⟨gS, 5, none⟩ (.int .i64 M.z1)).cell? ⟨q, 3, none⟩ = some (.int .i64 f3) := bQ.cell 3 _ rfl
            have cQ4 : ((((((u9.setCell ⟨gS, 0, none⟩ (.int .i64 M.x0)).setCell ⟨gS, 1, none⟩ (.int .i64 M.x1)).setCell ⟨gS, 2, none⟩ (.int .i64 M.y0)).setCell ⟨gS, 3, none⟩ (.int .i64 M.y1)).setCell ⟨gS, 4, none⟩ (.int .i64 M.z0)).setCell ⟨gS, 5, none⟩ (.int .i64 M.z1)).cell? ⟨q, 4, none⟩ = some (.int .i64 f4) := bQ.cell 4 _ rfl
            have cQ5 : ((((((u9.setCell ⟨gS, 0, none⟩ (.int .i64 M.x0)).setCell ⟨gS, 1, none⟩ (.int .i64 M.x1)).setCell ⟨gS, 2, none⟩ (.int .i64 M.y0)).setCell ⟨gS, 3, none⟩ (.int .i64 M.y1)).setCell ⟨gS, 4, none⟩ (.int .i64 M.z0)).setCell ⟨gS, 5, none⟩ (.int .i64 M.z1)).cell? ⟨q, 5, none⟩ = some (.int .i64 f5) := bQ.cell 5 _ rfl
            have kQ := bQ.lt
            go_wp2_with fail
            go_at_call 11
            refine (m1 _).mono ?_
            rintro r u10 ⟨rfl, hb⟩
            clear zS0 rwS0 zS1 rwS1 zS2 rwS2 zS3 rwS3 zS4 rwS4 zS5 rwS5 kzS
            replace bP := bP.keep hb
            replace bQ := bQ.keep hb
            replace bGx := bGx.keep hb
            replace bS := bS.keep hb
            replace bR := bR.keep hb
            replace bD := bD.keep hb
            replace bK := bK.keep hb
            replace bN := bN.keep hb
            replace hB := hB.trans (hb.mono (by have := hB.size; omega))
            clear hb cP0 cP1 cP2 cP3 cP4 cP5 kP cQ0 cQ1 cQ2 cQ3 cQ4 cQ5 kQ
            have zR0 : u10.frozen? ⟨gR, 0, none⟩ = false := bR.f 0
            have zR1 : u10.frozen? ⟨gR, 1, none⟩ = false := bR.f 1
            have zR2 : u10.frozen? ⟨gR, 2, none⟩ = false := bR.f 2
            have zR3 : u10.frozen? ⟨gR, 3, none⟩ = false := bR.f 3
            have zR4 : u10.frozen? ⟨gR, 4, none⟩ = false := bR.f 4
            have zR5 : u10.frozen? ⟨gR, 5, none⟩ = false := bR.f 5
            have kzR := bR.lt
            have rwR0 : u10.cell? ⟨gR, 0, none⟩ = some t0 := bR.cell 0 _ rfl
            have rwR1 : u10.cell? ⟨gR, 1, none⟩ = some t1 := bR.cell 1 _ rfl
            have rwR2 : u10.cell? ⟨gR, 2, none⟩ = some t2 := bR.cell 2 _ rfl
            have rwR3 : u10.cell? ⟨gR, 3, none⟩ = some t3 := bR.cell 3 _ rfl
            have rwR4 : u10.cell? ⟨gR, 4, none⟩ = some t4 := bR.cell 4 _ rfl
            have rwR5 : u10.cell? ⟨gR, 5, none⟩ = some t5 := bR.cell 5 _ rfl
            replace bP := bP.far6 (g := gR) (by omega) (.int .i64 M.x0) (.int .i64 M.x1) (.int .i64 M.y0) (.int .i64 M.y1) (.int .i64 M.z0) (.int .i64 M.z1)
            replace bQ := bQ.far6 (g := gR) (by omega) (.int .i64 M.x0) (.int .i64 M.x1) (.int .i64 M.y0) (.int .i64 M.y1) (.int .i64 M.z0) (.int .i64 M.z1)
            replace bGx := bGx.far6 (g := gR) (by omega) (.int .i64 M.x0) (.int .i64 M.x1) (.int .i64 M.y0) (.int .i64 M.y1) (.int .i64 M.z0) (.int .i64 M.z1)
            replace bS := bS.far6 (g := gR) (by omega) (.int .i64 M.x0) (.int .i64 M.x1) (.int .i64 M.y0) (.int .i64 M.y1) (.int .i64 M.z0) (.int .i64 M.z1)
            replace bR := bR.set6 (.int .i64 M.x0) (.int .i64 M.x1) (.int .i64 M.y0) (.int .i64 M.y1) (.int .i64 M.z0) (.int .i64 M.z1)
            replace bD := bD.far6 (g := gR) (by omega) (.int .i64 M.x0) (.int .i64 M.x1) (.int .i64 M.y0) (.int .i64 M.y1) (.int .i64 M.z0) (.int .i64 M.z1)
            replace bK := bK.far6 (g := gR) (by omega) (.int .i64 M.x0) (.int .i64 M.x1) (.int .i64 M.y0) (.int .i64 M.y1) (.int .i64 M.z0) (.int .i64 M.z1)
            replace bN := bN.far6 (g := gR) (by omega) (.int .i64 M.x0) (.int .i64 M.x1) (.int .i64 M.y0) (.int .i64 M.y1) (.int .i64 M.z0) (.int .i64 M.z1)
            replace hB := below6 hB (g := gR) (by omega) (.int .i64 M.x0) (.int .i64 M.x1) (.int .i64 M.y0) (.int .i64 M.y1) (.int .i64 M.z0) (.int .i64 M.z1)
            have cS0 : ((((((u10.setCell ⟨gR, 0, none⟩ (.int .i64 M.x0)).setCell ⟨gR, 1, none⟩ (.int .i64 M.x1)).setCell ⟨gR, 2, none⟩ (.int .i64 M.y0)).setCell ⟨gR, 3, none⟩ (.int .i64 M.y1)).setCell ⟨gR, 4, none⟩ (.int .i64 M.z0)).setCell ⟨gR, 5, none⟩ (.int .i64 M.z1)).cell? ⟨gS, 0, none⟩ = some (.int .i64 M.x0) := bS.cell 0 _ rfl
            have cS1 : ((((((u10.setCell ⟨gR, 0, none⟩ (.int .i64 M.x0)).setCell ⟨gR, 1, none⟩ (.int .i64 M.x1)).setCell ⟨gR, 2, none⟩ (.int .i64 M.y0)).setCell ⟨gR, 3, none⟩ (.int .i64 M.y1)).setCell ⟨gR, 4, none⟩ (.int .i64 M.z0)).setCell ⟨gR, 5, none⟩ (.int .i64 M.z1)).cell? ⟨gS, 1, none⟩ = some (.int .i64 M.x1) := bS.cell 1 _ rfl
            have cS2 : ((((((u10.setCell ⟨gR, 0, none⟩ (.int .i64 M.x0)).setCell ⟨gR, 1, none⟩ (.int .i64 M.x1)).setCell ⟨gR, 2, none⟩ (.int .i64 M.y0)).setCell ⟨gR, 3, none⟩ (.int .i64 M.y1)).setCell ⟨gR, 4, none⟩ (.int .i64 M.z0)).setCell ⟨gR, 5, none⟩ (.int .i64 M.z1)).cell? ⟨gS, 2, none⟩ = some (.int .i64 M.y0) := bS.cell 2 _ rfl
            have cS3 : ((((((u10.setCell ⟨gR, 0, none⟩ (.int .i64 M.x0)).setCell ⟨gR, 1, none⟩ (.int .i64 M.x1)).setCell ⟨gR, 2, none⟩ (.int .i64 M.y0)).setCell ⟨gR, 3, none⟩ (.int .i64 M.y1)).setCell ⟨gR, 4, none⟩ (.int .i64 M.z0)).setCell ⟨gR, 5, none⟩ (.int .i64 M.z1)).cell? ⟨gS, 3, none⟩ = some (.int .i64 M.y1) := bS.cell 3 _ rfl
            have cS4 : ((((((u10.setCell ⟨gR, 0, none⟩ (.int .i64 M.x0)).setCell ⟨gR, 1, none⟩ (.int .i64 M.x1)).setCell ⟨gR, 2, none⟩ (.int .i64 M.y0)).setCell ⟨gR, 3, none⟩ (.int .i64 M.y1)).setCell ⟨gR, 4, none⟩ (.int .i64 M.z0)).setCell ⟨gR, 5, none⟩ (.int .i64 M.z1)).cell? ⟨gS, 4, none⟩ = some (.int .i64 M.z0) := bS.cell 4 _ rfl
            have cS5 : ((((((u10.setCell ⟨gR, 0, none⟩ (.int .i64 M.x0)).setCell ⟨gR, 1, none⟩ (.int .i64 M.x1)).setCell ⟨gR, 2, none⟩ (.int .i64 M.y0)).setCell ⟨gR, 3, none⟩ (.int .i64 M.y1)).setCell ⟨gR, 4, none⟩ (.int .i64 M.z0)).setCell ⟨gR, 5, none⟩ (.int .i64 M.z1)).cell? ⟨gS, 5, none⟩ = some (.int .i64 M.z1) := bS.cell 5 _ rfl
            have kS := bS.lt
            have cR0 : ((((((u10.setCell ⟨gR, 0, none⟩ (.int .i64 M.x0)).setCell ⟨gR, 1, none⟩ (.int .i64 M.x1)).setCell ⟨gR, 2, none⟩ (.int .i64 M.y0)).setCell ⟨gR, 3, none⟩ (.int .i64 M.y1)).setCell ⟨gR, 4, none⟩ (.int .i64 M.z0)).setCell ⟨gR, 5, none⟩ (.int .i64 M.z1)).cell? ⟨gR, 0, none⟩ = some (.int .i64 M.x0) := bR.cell 0 _ rfl
            have cR1 : ((((((u10.setCell ⟨gR, 0, none⟩ (.int .i64 M.x0)).setCell ⟨gR, 1, none⟩ (.int .i64 M.x1)).setCell ⟨gR, 2, none⟩ (.int .i64 M.y0)).setCell ⟨gR, 3, none⟩ (.int .i64 M.y1)).setCell ⟨gR, 4, none⟩ (.int .i64 M.z0)).setCell ⟨gR, 5, none⟩ (.int .i64 M.z1)).cell? ⟨gR, 1, none⟩ = some (.int .i64 M.x1) := bR.cell 1 _ rfl
            have cR2 : ((((((u10.setCell ⟨gR, 0, none⟩ (.int .i64 M.x0)).setCell ⟨gR, 1, none⟩ (.int .i64 M.x1)).setCell ⟨gR, 2, none⟩ (.int .i64 M.y0)).setCell ⟨gR, 3, none⟩ (.int .i64 M.y1)).setCell ⟨gR, 4, none⟩ (.int .i64 M.z0)).setCell ⟨gR, 5, none⟩ (.int .i64 M.z1)).cell? ⟨gR, 2, none⟩ = some (.int .i64 M.y0) := bR.cell 2 _ rfl
            have cR3 : ((((((u10.setCell ⟨gR, 0, none⟩ (.int .i64 M.x0)).setCell ⟨gR, 1, none⟩ (.int .i64 M.x1)).setCell ⟨gR, 2, none⟩ (.int .i64 M.y0)).setCell ⟨gR, 3, none⟩ (.int .i64 M.y1)).setCell ⟨gR, 4, none⟩ (.int .i64 M.z0)).setCell ⟨gR, 5, none⟩ (.int .i64 M.z1)).cell? ⟨gR, 3, none⟩ = some (.int .i64 M.y1) := bR.cell 3 _ rfl
            have cR4 : ((((((u10.setCell ⟨gR, 0, none⟩ (.int .i64 M.x0)).setCell ⟨gR, 1, none⟩ (.int .i64 M.x1)).setCell ⟨gR, 2, none⟩ (.int .i64 M.y0)).setCell ⟨gR, 3, none⟩ (.int .i64 M.y1)).setCell ⟨gR, 4, none⟩ (.int .i64 M.z0)).setCell ⟨gR, 5, none⟩ (.int .i64 M.z1)).cell? ⟨gR, 4, none⟩ = some (.int .i64 M.z0) := bR.cell 4 _ rfl
            have cR5 : ((((((u10.setCell ⟨gR, 0, none⟩ (.int .i64 M.x0)).setCell ⟨gR, 1, none⟩ (.int .i64 M.x1)).setCell ⟨gR, 2, none⟩ (.int .i64 M.y0)).setCell ⟨gR, 3, none⟩ (.int .i64 M.y1)).setCell ⟨gR, 4, none⟩ (.int .i64 M.z0)).setCell ⟨gR, 5, none⟩ (.int .i64 M.z1)).cell? ⟨gR, 5, none⟩ = some (.int .i64 M.z1) := bR.cell 5 _ rfl
            have kR := bR.lt
            go_wp2_with fail
            go_roundw
            case rel => exact ⟨k + 1, by omega, by omega, by go_num, hB, bGx⟩
            case measure => simp [intOf]; omega
    · go_wp2
      go_ret
      subst hn
      exact ⟨rfl, hB⟩
end Go.Proofs.Ytnfapdmbkpkkdaa
