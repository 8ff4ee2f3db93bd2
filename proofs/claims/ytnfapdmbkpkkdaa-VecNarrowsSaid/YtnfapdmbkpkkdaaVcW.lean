/-
  VecNarrows: the walk.
-/
import Derived.Test.YtnfapdmbkpkkdaaVcT
import Derived.Test.YtnfapdmbkpkkdaaVcV
namespace Go.Proofs.Ytnfapdmbkpkkdaa
open Go.RowKit

set_option maxHeartbeats 4000000 in
theorem nv_within {r s : Int × Int × Int} (h : Nv r s) (e : s.2.2 = 0) : r.2.2 = 0 ∧ s.1 ≤ r.1 ∧ r.2.1 ≤ s.2.1 := ⟨(h e).1, (h e).2.2.1, (h e).2.2.2.2⟩

set_option maxRecDepth 100000 in
set_option maxHeartbeats 16000000 in
theorem vecNarrows_true (a0 a1 a2 a3 a4 a5 d0 d1 d2 d3 d4 d5 p0 q0 r0 p1 q1 r1 p2 q2 r2 p3 q3 r3 p4 q4 r4 p5 q5 r5 m0 m1 m2 m3 m4 m5 l0 l1 l2 l3 l4 l5 : Int) (w : World) (q00 : 0 ≤ q0) (q01 : q0 ≤ 255) (r00 : 0 ≤ r0) (r01 : r0 ≤ 4294967295) (q10 : 0 ≤ q1) (q11 : q1 ≤ 255) (r10 : 0 ≤ r1) (r11 : r1 ≤ 4294967295) (q20 : 0 ≤ q2) (q21 : q2 ≤ 255) (r20 : 0 ≤ r2) (r21 : r2 ≤ 4294967295) (q30 : 0 ≤ q3) (q31 : q3 ≤ 255) (r30 : 0 ≤ r3) (r31 : r3 ≤ 4294967295) (q40 : 0 ≤ q4) (q41 : q4 ≤ 255) (r40 : 0 ≤ r4) (r41 : r4 ≤ 4294967295) (q50 : 0 ≤ q5) (q51 : q5 ≤ 255) (r50 : 0 ≤ r5) (r51 : r5 ≤ 4294967295) (m0l : 0 ≤ m0) (m1l : 0 ≤ m1) (m2l : 0 ≤ m2) (m3l : 0 ≤ m3) (m4l : 0 ≤ m4) (m5l : 0 ≤ m5) (l0l : 0 ≤ l0) (l1l : 0 ≤ l1) (l2l : 0 ≤ l2) (l3l : 0 ≤ l3) (l4l : 0 ≤ l4) (l5l : 0 ≤ l5) :
    Calls Try.prog 3 #[.agg #[.int .i64 a0, .int .i64 a1, .int .i64 a2, .int .i64 a3, .int .i64 a4, .int .i64 a5, .int .i64 d0, .int .i64 d1, .int .i64 d2, .int .i64 d3, .int .i64 d4, .int .i64 d5, .int .i64 p0, .int .u8 q0, .int .u32 r0, .int .i64 p1, .int .u8 q1, .int .u32 r1, .int .i64 p2, .int .u8 q2, .int .u32 r2, .int .i64 p3, .int .u8 q3, .int .u32 r3, .int .i64 p4, .int .u8 q4, .int .u32 r4, .int .i64 p5, .int .u8 q5, .int .u32 r5], .agg #[.int .u64 m0, .int .u64 m1, .int .u64 m2, .int .u64 m3, .int .u64 m4, .int .u64 m5], .agg #[.int .u64 l0, .int .u64 l1, .int .u64 l2, .int .u64 l3, .int .u64 l4, .int .u64 l5]] w fun r w' => r = .returned (.bool true) ∧ Below w.heap.size w w' := by
  obtain ⟨x0, x1, x2, x3, x4, x5, y0, y1, y2, y3, y4, y5, s0, s1, s2, s3, s4, s5, hx, hy, hs, hP⟩ := vPairs_any a0 a1 a2 a3 a4 a5 d0 d1 d2 d3 d4 d5 p0 q0 r0 p1 q1 r1 p2 q2 r2 p3 q3 r3 p4 q4 r4 p5 q5 r5 q00 q01 r00 r01 q10 q11 r10 r11 q20 q21 r20 r21 q30 q31 r30 r31 q40 q41 r40 r41 q50 q51 r50 r51
  have b0_ := Bn.new w #[.int .i64 a0, .int .i64 a1, .int .i64 a2, .int .i64 a3, .int .i64 a4, .int .i64 a5, .int .i64 d0, .int .i64 d1, .int .i64 d2, .int .i64 d3, .int .i64 d4, .int .i64 d5, .int .i64 p0, .int .u8 q0, .int .u32 r0, .int .i64 p1, .int .u8 q1, .int .u32 r1, .int .i64 p2, .int .u8 q2, .int .u32 r2, .int .i64 p3, .int .u8 q3, .int .u32 r3, .int .i64 p4, .int .u8 q4, .int .u32 r4, .int .i64 p5, .int .u8 q5, .int .u32 r5] 32
  replace b0_ := b0_.alloc (.cells #[.int .u64 m0, .int .u64 m1, .int .u64 m2, .int .u64 m3, .int .u64 m4, .int .u64 m5] 36)
  replace b0_ := b0_.alloc (.cells #[.int .u64 l0, .int .u64 l1, .int .u64 l2, .int .u64 l3, .int .u64 l4, .int .u64 l5] 36)
  have b1_ := Bn.new (w.alloc (.cells #[.int .i64 a0, .int .i64 a1, .int .i64 a2, .int .i64 a3, .int .i64 a4, .int .i64 a5, .int .i64 d0, .int .i64 d1, .int .i64 d2, .int .i64 d3, .int .i64 d4, .int .i64 d5, .int .i64 p0, .int .u8 q0, .int .u32 r0, .int .i64 p1, .int .u8 q1, .int .u32 r1, .int .i64 p2, .int .u8 q2, .int .u32 r2, .int .i64 p3, .int .u8 q3, .int .u32 r3, .int .i64 p4, .int .u8 q4, .int .u32 r4, .int .i64 p5, .int .u8 q5, .int .u32 r5] 32)) #[.int .u64 m0, .int .u64 m1, .int .u64 m2, .int .u64 m3, .int .u64 m4, .int .u64 m5] 36
  rw [show (w.alloc (.cells #[.int .i64 a0, .int .i64 a1, .int .i64 a2, .int .i64 a3, .int .i64 a4, .int .i64 a5, .int .i64 d0, .int .i64 d1, .int .i64 d2, .int .i64 d3, .int .i64 d4, .int .i64 d5, .int .i64 p0, .int .u8 q0, .int .u32 r0, .int .i64 p1, .int .u8 q1, .int .u32 r1, .int .i64 p2, .int .u8 q2, .int .u32 r2, .int .i64 p3, .int .u8 q3, .int .u32 r3, .int .i64 p4, .int .u8 q4, .int .u32 r4, .int .i64 p5, .int .u8 q5, .int .u32 r5] 32)).heap.size = w.heap.size + 1 by simp] at b1_
  replace b1_ := b1_.alloc (.cells #[.int .u64 l0, .int .u64 l1, .int .u64 l2, .int .u64 l3, .int .u64 l4, .int .u64 l5] 36)
  have b2_ := Bn.new ((w.alloc (.cells #[.int .i64 a0, .int .i64 a1, .int .i64 a2, .int .i64 a3, .int .i64 a4, .int .i64 a5, .int .i64 d0, .int .i64 d1, .int .i64 d2, .int .i64 d3, .int .i64 d4, .int .i64 d5, .int .i64 p0, .int .u8 q0, .int .u32 r0, .int .i64 p1, .int .u8 q1, .int .u32 r1, .int .i64 p2, .int .u8 q2, .int .u32 r2, .int .i64 p3, .int .u8 q3, .int .u32 r3, .int .i64 p4, .int .u8 q4, .int .u32 r4, .int .i64 p5, .int .u8 q5, .int .u32 r5] 32)).alloc (.cells #[.int .u64 m0, .int .u64 m1, .int .u64 m2, .int .u64 m3, .int .u64 m4, .int .u64 m5] 36)) #[.int .u64 l0, .int .u64 l1, .int .u64 l2, .int .u64 l3, .int .u64 l4, .int .u64 l5] 36
  rw [show ((w.alloc (.cells #[.int .i64 a0, .int .i64 a1, .int .i64 a2, .int .i64 a3, .int .i64 a4, .int .i64 a5, .int .i64 d0, .int .i64 d1, .int .i64 d2, .int .i64 d3, .int .i64 d4, .int .i64 d5, .int .i64 p0, .int .u8 q0, .int .u32 r0, .int .i64 p1, .int .u8 q1, .int .u32 r1, .int .i64 p2, .int .u8 q2, .int .u32 r2, .int .i64 p3, .int .u8 q3, .int .u32 r3, .int .i64 p4, .int .u8 q4, .int .u32 r4, .int .i64 p5, .int .u8 q5, .int .u32 r5] 32)).alloc (.cells #[.int .u64 m0, .int .u64 m1, .int .u64 m2, .int .u64 m3, .int .u64 m4, .int .u64 m5] 36)).heap.size = w.heap.size + 2 by simp] at b2_
  have hB : Below w.heap.size w (((w.alloc (.cells #[.int .i64 a0, .int .i64 a1, .int .i64 a2, .int .i64 a3, .int .i64 a4, .int .i64 a5, .int .i64 d0, .int .i64 d1, .int .i64 d2, .int .i64 d3, .int .i64 d4, .int .i64 d5, .int .i64 p0, .int .u8 q0, .int .u32 r0, .int .i64 p1, .int .u8 q1, .int .u32 r1, .int .i64 p2, .int .u8 q2, .int .u32 r2, .int .i64 p3, .int .u8 q3, .int .u32 r3, .int .i64 p4, .int .u8 q4, .int .u32 r4, .int .i64 p5, .int .u8 q5, .int .u32 r5] 32)).alloc (.cells #[.int .u64 m0, .int .u64 m1, .int .u64 m2, .int .u64 m3, .int .u64 m4, .int .u64 m5] 36)).alloc (.cells #[.int .u64 l0, .int .u64 l1, .int .u64 l2, .int .u64 l3, .int .u64 l4, .int .u64 l5] 36)) := by (repeat (first | with_reducible exact Below.refl _ _ | with_reducible assumption | refine Below.alloc ?_ (by (try simp); try omega) _ | refine Below.setCell ?_ (by (try simp); try omega) _ | refine below_drewN ?_ _ | refine Below.drew ?_ | (with_reducible refine Below.trans ?_ (Below.mono (by assumption) (by (try simp); try omega)))))
  go_enter Try.func3, Try.ntmps3
  go_wp2_with fail
  generalize (((w.alloc (.cells #[.int .i64 a0, .int .i64 a1, .int .i64 a2, .int .i64 a3, .int .i64 a4, .int .i64 a5, .int .i64 d0, .int .i64 d1, .int .i64 d2, .int .i64 d3, .int .i64 d4, .int .i64 d5, .int .i64 p0, .int .u8 q0, .int .u32 r0, .int .i64 p1, .int .u8 q1, .int .u32 r1, .int .i64 p2, .int .u8 q2, .int .u32 r2, .int .i64 p3, .int .u8 q3, .int .u32 r3, .int .i64 p4, .int .u8 q4, .int .u32 r4, .int .i64 p5, .int .u8 q5, .int .u32 r5] 32)).alloc (.cells #[.int .u64 m0, .int .u64 m1, .int .u64 m2, .int .u64 m3, .int .u64 m4, .int .u64 m5] 36)).alloc (.cells #[.int .u64 l0, .int .u64 l1, .int .u64 l2, .int .u64 l3, .int .u64 l4, .int .u64 l5] 36)) = v0 at *
  generalize hn : w.heap.size = n at *
  go_at_call 7
  refine (works_true _).mono ?_
  rintro r u1 ⟨rfl, hb⟩
  replace b0_ := b0_.keep hb
  replace b1_ := b1_.keep hb
  replace b2_ := b2_.keep hb
  replace hB := hB.trans (hb.mono (by have := hB.size; omega))
  clear hb
  go_wp2_with (refine wpList_load_row rfl _ _ rfl n (by rfl) _ _ _ _ b0_ Try.underlying32 rfl (by kernel_rfl) ?_)
  go_at_call 8
  refine (hP _).mono ?_
  rintro r u2 ⟨g, rfl, G, hb⟩
  replace b0_ := b0_.keep hb
  replace b1_ := b1_.keep hb
  replace b2_ := b2_.keep hb
  replace hB := hB.trans (hb.mono (by have := hB.size; omega))
  clear hb hP b0_
  generalize (.agg #[.int .i64 a0, .int .i64 a1, .int .i64 a2, .int .i64 a3, .int .i64 a4, .int .i64 a5, .int .i64 d0, .int .i64 d1, .int .i64 d2, .int .i64 d3, .int .i64 d4, .int .i64 d5, .int .i64 p0, .int .u8 q0, .int .u32 r0, .int .i64 p1, .int .u8 q1, .int .u32 r1, .int .i64 p2, .int .u8 q2, .int .u32 r2, .int .i64 p3, .int .u8 q3, .int .u32 r3, .int .i64 p4, .int .u8 q4, .int .u32 r4, .int .i64 p5, .int .u8 q5, .int .u32 r5] : Value) = va at *
  have hcs : ∀ k : Int, 0 ≤ k → k < 2 → ∃ e0 e1 e2 e3 e4 e5 f0 f1 f2 f3 f4 f5 : Int, ckV e0 e1 e2 e3 e4 e5 = 0 ∧ ckV f0 f1 f2 f3 f4 f5 = 0 ∧ (#[.int .i64 a0, .int .i64 a1, .int .i64 a2, .int .i64 a3, .int .i64 a4, .int .i64 a5, .int .i64 d0, .int .i64 d1, .int .i64 d2, .int .i64 d3, .int .i64 d4, .int .i64 d5, .int .i64 x0, .int .i64 x1, .int .i64 x2, .int .i64 x3, .int .i64 x4, .int .i64 x5, .int .i64 y0, .int .i64 y1, .int .i64 y2, .int .i64 y3, .int .i64 y4, .int .i64 y5, .int .i64 s0, .int .i64 s1, .int .i64 s2, .int .i64 s3, .int .i64 s4, .int .i64 s5, .int .i64 y0, .int .i64 y1, .int .i64 y2, .int .i64 y3, .int .i64 y4, .int .i64 y5, .int .i64 s0, .int .i64 s1, .int .i64 s2, .int .i64 s3, .int .i64 s4, .int .i64 s5, .int .i64 d0, .int .i64 d1, .int .i64 d2, .int .i64 d3, .int .i64 d4, .int .i64 d5] : Array Value)[12 + k.toNat * 12]? = some (.int .i64 e0) ∧ (#[.int .i64 a0, .int .i64 a1, .int .i64 a2, .int .i64 a3, .int .i64 a4, .int .i64 a5, .int .i64 d0, .int .i64 d1, .int .i64 d2, .int .i64 d3, .int .i64 d4, .int .i64 d5, .int .i64 x0, .int .i64 x1, .int .i64 x2, .int .i64 x3, .int .i64 x4, .int .i64 x5, .int .i64 y0, .int .i64 y1, .int .i64 y2, .int .i64 y3, .int .i64 y4, .int .i64 y5, .int .i64 s0, .int .i64 s1, .int .i64 s2, .int .i64 s3, .int .i64 s4, .int .i64 s5, .int .i64 y0, .int .i64 y1, .int .i64 y2, .int .i64 y3, .int .i64 y4, .int .i64 y5, .int .i64 s0, .int .i64 s1, .int .i64 s2, .int .i64 s3, .int .i64 s4, .int .i64 s5, .int .i64 d0, .int .i64 d1, .int .i64 d2, .int .i64 d3, .int .i64 d4, .int .i64 d5] : Array Value)[12 + k.toNat * 12 + 1]? = some (.int .i64 e1) ∧ (#[.int .i64 a0, .int .i64 a1, .int .i64 a2, .int .i64 a3, .int .i64 a4, .int .i64 a5, .int .i64 d0, .int .i64 d1, .int .i64 d2, .int .i64 d3, .int .i64 d4, .int .i64 d5, .int .i64 x0, .int .i64 x1, .int .i64 x2, .int .i64 x3, .int .i64 x4, .int .i64 x5, .int .i64 y0, .int .i64 y1, .int .i64 y2, .int .i64 y3, .int .i64 y4, .int .i64 y5, .int .i64 s0, .int .i64 s1, .int .i64 s2, .int .i64 s3, .int .i64 s4, .int .i64 s5, .int .i64 y0, .int .i64 y1, .int .i64 y2, .int .i64 y3, .int .i64 y4, .int .i64 y5, .int .i64 s0, .int .i64 s1, .int .i64 s2, .int .i64 s3, .int .i64 s4, .int .i64 s5, .int .i64 d0, .int .i64 d1, .int .i64 d2, .int .i64 d3, .int .i64 d4, .int .i64 d5] : Array Value)[12 + k.toNat * 12 + 2]? = some (.int .i64 e2) ∧ (#[.int .i64 a0, .int .i64 a1, .int .i64 a2, .int .i64 a3, .int .i64 a4, .int .i64 a5, .int .i64 d0, .int .i64 d1, .int .i64 d2, .int .i64 d3, .int .i64 d4, .int .i64 d5, .int .i64 x0, .int .i64 x1, .int .i64 x2, .int .i64 x3, .int .i64 x4, .int .i64 x5, .int .i64 y0, .int .i64 y1, .int .i64 y2, .int .i64 y3, .int .i64 y4, .int .i64 y5, .int .i64 s0, .int .i64 s1, .int .i64 s2, .int .i64 s3, .int .i64 s4, .int .i64 s5, .int .i64 y0, .int .i64 y1, .int .i64 y2, .int .i64 y3, .int .i64 y4, .int .i64 y5, .int .i64 s0, .int .i64 s1, .int .i64 s2, .int .i64 s3, .int .i64 s4, .int .i64 s5, .int .i64 d0, .int .i64 d1, .int .i64 d2, .int .i64 d3, .int .i64 d4, .int .i64 d5] : Array Value)[12 + k.toNat * 12 + 3]? = some (.int .i64 e3) ∧ (#[.int .i64 a0, .int .i64 a1, .int .i64 a2, .int .i64 a3, .int .i64 a4, .int .i64 a5, .int .i64 d0, .int .i64 d1, .int .i64 d2, .int .i64 d3, .int .i64 d4, .int .i64 d5, .int .i64 x0, .int .i64 x1, .int .i64 x2, .int .i64 x3, .int .i64 x4, .int .i64 x5, .int .i64 y0, .int .i64 y1, .int .i64 y2, .int .i64 y3, .int .i64 y4, .int .i64 y5, .int .i64 s0, .int .i64 s1, .int .i64 s2, .int .i64 s3, .int .i64 s4, .int .i64 s5, .int .i64 y0, .int .i64 y1, .int .i64 y2, .int .i64 y3, .int .i64 y4, .int .i64 y5, .int .i64 s0, .int .i64 s1, .int .i64 s2, .int .i64 s3, .int .i64 s4, .int .i64 s5, .int .i64 d0, .int .i64 d1, .int .i64 d2, .int .i64 d3, .int .i64 d4, .int .i64 d5] : Array Value)[12 + k.toNat * 12 + 4]? = some (.int .i64 e4) ∧ (#[.int .i64 a0, .int .i64 a1, .int .i64 a2, .int .i64 a3, .int .i64 a4, .int .i64 a5, .int .i64 d0, .int .i64 d1, .int .i64 d2, .int .i64 d3, .int .i64 d4, .int .i64 d5, .int .i64 x0, .int .i64 x1, .int .i64 x2, .int .i64 x3, .int .i64 x4, .int .i64 x5, .int .i64 y0, .int .i64 y1, .int .i64 y2, .int .i64 y3, .int .i64 y4, .int .i64 y5, .int .i64 s0, .int .i64 s1, .int .i64 s2, .int .i64 s3, .int .i64 s4, .int .i64 s5, .int .i64 y0, .int .i64 y1, .int .i64 y2, .int .i64 y3, .int .i64 y4, .int .i64 y5, .int .i64 s0, .int .i64 s1, .int .i64 s2, .int .i64 s3, .int .i64 s4, .int .i64 s5, .int .i64 d0, .int .i64 d1, .int .i64 d2, .int .i64 d3, .int .i64 d4, .int .i64 d5] : Array Value)[12 + k.toNat * 12 + 5]? = some (.int .i64 e5) ∧ (#[.int .i64 a0, .int .i64 a1, .int .i64 a2, .int .i64 a3, .int .i64 a4, .int .i64 a5, .int .i64 d0, .int .i64 d1, .int .i64 d2, .int .i64 d3, .int .i64 d4, .int .i64 d5, .int .i64 x0, .int .i64 x1, .int .i64 x2, .int .i64 x3, .int .i64 x4, .int .i64 x5, .int .i64 y0, .int .i64 y1, .int .i64 y2, .int .i64 y3, .int .i64 y4, .int .i64 y5, .int .i64 s0, .int .i64 s1, .int .i64 s2, .int .i64 s3, .int .i64 s4, .int .i64 s5, .int .i64 y0, .int .i64 y1, .int .i64 y2, .int .i64 y3, .int .i64 y4, .int .i64 y5, .int .i64 s0, .int .i64 s1, .int .i64 s2, .int .i64 s3, .int .i64 s4, .int .i64 s5, .int .i64 d0, .int .i64 d1, .int .i64 d2, .int .i64 d3, .int .i64 d4, .int .i64 d5] : Array Value)[12 + k.toNat * 12 + 6]? = some (.int .i64 f0) ∧ (#[.int .i64 a0, .int .i64 a1, .int .i64 a2, .int .i64 a3, .int .i64 a4, .int .i64 a5, .int .i64 d0, .int .i64 d1, .int .i64 d2, .int .i64 d3, .int .i64 d4, .int .i64 d5, .int .i64 x0, .int .i64 x1, .int .i64 x2, .int .i64 x3, .int .i64 x4, .int .i64 x5, .int .i64 y0, .int .i64 y1, .int .i64 y2, .int .i64 y3, .int .i64 y4, .int .i64 y5, .int .i64 s0, .int .i64 s1, .int .i64 s2, .int .i64 s3, .int .i64 s4, .int .i64 s5, .int .i64 y0, .int .i64 y1, .int .i64 y2, .int .i64 y3, .int .i64 y4, .int .i64 y5, .int .i64 s0, .int .i64 s1, .int .i64 s2, .int .i64 s3, .int .i64 s4, .int .i64 s5, .int .i64 d0, .int .i64 d1, .int .i64 d2, .int .i64 d3, .int .i64 d4, .int .i64 d5] : Array Value)[12 + k.toNat * 12 + 7]? = some (.int .i64 f1) ∧ (#[.int .i64 a0, .int .i64 a1, .int .i64 a2, .int .i64 a3, .int .i64 a4, .int .i64 a5, .int .i64 d0, .int .i64 d1, .int .i64 d2, .int .i64 d3, .int .i64 d4, .int .i64 d5, .int .i64 x0, .int .i64 x1, .int .i64 x2, .int .i64 x3, .int .i64 x4, .int .i64 x5, .int .i64 y0, .int .i64 y1, .int .i64 y2, .int .i64 y3, .int .i64 y4, .int .i64 y5, .int .i64 s0, .int .i64 s1, .int .i64 s2, .int .i64 s3, .int .i64 s4, .int .i64 s5, .int .i64 y0, .int .i64 y1, .int .i64 y2, .int .i64 y3, .int .i64 y4, .int .i64 y5, .int .i64 s0, .int .i64 s1, .int .i64 s2, .int .i64 s3, .int .i64 s4, .int .i64 s5, .int .i64 d0, .int .i64 d1, .int .i64 d2, .int .i64 d3, .int .i64 d4, .int .i64 d5] : Array Value)[12 + k.toNat * 12 + 8]? = some (.int .i64 f2) ∧ (#[.int .i64 a0, .int .i64 a1, .int .i64 a2, .int .i64 a3, .int .i64 a4, .int .i64 a5, .int .i64 d0, .int .i64 d1, .int .i64 d2, .int .i64 d3, .int .i64 d4, .int .i64 d5, .int .i64 x0, .int .i64 x1, .int .i64 x2, .int .i64 x3, .int .i64 x4, .int .i64 x5, .int .i64 y0, .int .i64 y1, .int .i64 y2, .int .i64 y3, .int .i64 y4, .int .i64 y5, .int .i64 s0, .int .i64 s1, .int .i64 s2, .int .i64 s3, .int .i64 s4, .int .i64 s5, .int .i64 y0, .int .i64 y1, .int .i64 y2, .int .i64 y3, .int .i64 y4, .int .i64 y5, .int .i64 s0, .int .i64 s1, .int .i64 s2, .int .i64 s3, .int .i64 s4, .int .i64 s5, .int .i64 d0, .int .i64 d1, .int .i64 d2, .int .i64 d3, .int .i64 d4, .int .i64 d5] : Array Value)[12 + k.toNat * 12 + 9]? = some (.int .i64 f3) ∧ (#[.int .i64 a0, .int .i64 a1, .int .i64 a2, .int .i64 a3, .int .i64 a4, .int .i64 a5, .int .i64 d0, .int .i64 d1, .int .i64 d2, .int .i64 d3, .int .i64 d4, .int .i64 d5, .int .i64 x0, .int .i64 x1, .int .i64 x2, .int .i64 x3, .int .i64 x4, .int .i64 x5, .int .i64 y0, .int .i64 y1, .int .i64 y2, .int .i64 y3, .int .i64 y4, .int .i64 y5, .int .i64 s0, .int .i64 s1, .int .i64 s2, .int .i64 s3, .int .i64 s4, .int .i64 s5, .int .i64 y0, .int .i64 y1, .int .i64 y2, .int .i64 y3, .int .i64 y4, .int .i64 y5, .int .i64 s0, .int .i64 s1, .int .i64 s2, .int .i64 s3, .int .i64 s4, .int .i64 s5, .int .i64 d0, .int .i64 d1, .int .i64 d2, .int .i64 d3, .int .i64 d4, .int .i64 d5] : Array Value)[12 + k.toNat * 12 + 10]? = some (.int .i64 f4) ∧ (#[.int .i64 a0, .int .i64 a1, .int .i64 a2, .int .i64 a3, .int .i64 a4, .int .i64 a5, .int .i64 d0, .int .i64 d1, .int .i64 d2, .int .i64 d3, .int .i64 d4, .int .i64 d5, .int .i64 x0, .int .i64 x1, .int .i64 x2, .int .i64 x3, .int .i64 x4, .int .i64 x5, .int .i64 y0, .int .i64 y1, .int .i64 y2, .int .i64 y3, .int .i64 y4, .int .i64 y5, .int .i64 s0, .int .i64 s1, .int .i64 s2, .int .i64 s3, .int .i64 s4, .int .i64 s5, .int .i64 y0, .int .i64 y1, .int .i64 y2, .int .i64 y3, .int .i64 y4, .int .i64 y5, .int .i64 s0, .int .i64 s1, .int .i64 s2, .int .i64 s3, .int .i64 s4, .int .i64 s5, .int .i64 d0, .int .i64 d1, .int .i64 d2, .int .i64 d3, .int .i64 d4, .int .i64 d5] : Array Value)[12 + k.toNat * 12 + 11]? = some (.int .i64 f5) := by
    intro k h0 h1
    obtain rfl | rfl : k = 0 ∨ k = 1 := by omega
    · exact ⟨x0, x1, x2, x3, x4, x5, y0, y1, y2, y3, y4, y5, hx, hy, rfl, rfl, rfl, rfl, rfl, rfl, rfl, rfl, rfl, rfl, rfl, rfl⟩
    · exact ⟨s0, s1, s2, s3, s4, s5, y0, y1, y2, y3, y4, y5, hs, hy, rfl, rfl, rfl, rfl, rfl, rfl, rfl, rfl, rfl, rfl, rfl, rfl⟩
  generalize (#[.int .i64 a0, .int .i64 a1, .int .i64 a2, .int .i64 a3, .int .i64 a4, .int .i64 a5, .int .i64 d0, .int .i64 d1, .int .i64 d2, .int .i64 d3, .int .i64 d4, .int .i64 d5, .int .i64 x0, .int .i64 x1, .int .i64 x2, .int .i64 x3, .int .i64 x4, .int .i64 x5, .int .i64 y0, .int .i64 y1, .int .i64 y2, .int .i64 y3, .int .i64 y4, .int .i64 y5, .int .i64 s0, .int .i64 s1, .int .i64 s2, .int .i64 s3, .int .i64 s4, .int .i64 s5, .int .i64 y0, .int .i64 y1, .int .i64 y2, .int .i64 y3, .int .i64 y4, .int .i64 y5, .int .i64 s0, .int .i64 s1, .int .i64 s2, .int .i64 s3, .int .i64 s4, .int .i64 s5, .int .i64 d0, .int .i64 d1, .int .i64 d2, .int .i64 d3, .int .i64 d4, .int .i64 d5] : Array Value) = cs at *
  replace hcs := Lib.hid hcs
  clear hx hy hs q00 q01 r00 r01 q10 q11 r10 r11 q20 q21 r20 r21 q30 q31 r30 r31 q40 q41 r40 r41 q50 q51 r50 r51
  have bX1 := b1_
  have bX2 := b2_
  clear b1_ b2_
  go_wp2_with fail
  go_loopw [31] (fun vi wr => ∃ k : Int, 0 ≤ k ∧ k ≤ 2 ∧ vi = .int .i64 k ∧ Below n w wr ∧ Bn wr g cs 40 ∧ Bn wr (n + 1) #[.int .u64 m0, .int .u64 m1, .int .u64 m2, .int .u64 m3, .int .u64 m4, .int .u64 m5] 36 ∧ Bn wr (n + 2) #[.int .u64 l0, .int .u64 l1, .int .u64 l2, .int .u64 l3, .int .u64 l4, .int .u64 l5] 36) (fun vi _ => 2 - (intOf vi).toNat)
  case atStart => exact ⟨0, by omega, by omega, rfl, hB, G, bX1, bX2⟩
  case round =>
    clear hB G bX1 bX2
    obtain ⟨k, k0, k2, rfl, hB, G, bX1, bX2⟩ := hrel
    by_cases hk : k < 2
    · obtain ⟨e0, e1, e2, e3, e4, e5, f0, f1, f2, f3, f4, f5, ke, kf, d0_, d1_, d2_, d3_, d4_, d5_, d6_, d7_, d8_, d9_, d10_, d11_⟩ := hcs.out k k0 hk
      have c0 : wr.cell? ⟨g, 12 + k.toNat * 12, none⟩ = some (.int .i64 e0) := G.cell _ _ d0_
      have c1 : wr.cell? ⟨g, 12 + k.toNat * 12 + 1, none⟩ = some (.int .i64 e1) := G.cell _ _ d1_
      have c2 : wr.cell? ⟨g, 12 + k.toNat * 12 + 2, none⟩ = some (.int .i64 e2) := G.cell _ _ d2_
      have c3 : wr.cell? ⟨g, 12 + k.toNat * 12 + 3, none⟩ = some (.int .i64 e3) := G.cell _ _ d3_
      have c4 : wr.cell? ⟨g, 12 + k.toNat * 12 + 4, none⟩ = some (.int .i64 e4) := G.cell _ _ d4_
      have c5 : wr.cell? ⟨g, 12 + k.toNat * 12 + 5, none⟩ = some (.int .i64 e5) := G.cell _ _ d5_
      have c6 : wr.cell? ⟨g, 12 + k.toNat * 12 + 6, none⟩ = some (.int .i64 f0) := G.cell _ _ d6_
      have c7 : wr.cell? ⟨g, 12 + k.toNat * 12 + 7, none⟩ = some (.int .i64 f1) := G.cell _ _ d7_
      have c8 : wr.cell? ⟨g, 12 + k.toNat * 12 + 8, none⟩ = some (.int .i64 f2) := G.cell _ _ d8_
      have c9 : wr.cell? ⟨g, 12 + k.toNat * 12 + 9, none⟩ = some (.int .i64 f3) := G.cell _ _ d9_
      have c10 : wr.cell? ⟨g, 12 + k.toNat * 12 + 10, none⟩ = some (.int .i64 f4) := G.cell _ _ d10_
      have c11 : wr.cell? ⟨g, 12 + k.toNat * 12 + 11, none⟩ = some (.int .i64 f5) := G.cell _ _ d11_
      clear d0_ d1_ d2_ d3_ d4_ d5_ d6_ d7_ d8_ d9_ d10_ d11_
      go_upto_region 6 with fail
      go_cut [9, 10] from 35 to 133 (fun va vb wx => ∃ p q : Nat, va = .pointer (some ⟨p, 0, none⟩) ∧ vb = .pointer (some ⟨q, 0, none⟩) ∧ p ≠ q ∧ n ≤ p ∧ n ≤ q ∧ g < p ∧ g < q ∧ p < wx.heap.size ∧ q < wx.heap.size ∧ Bn wx p #[.int .i64 e0, .int .i64 e1, .int .i64 e2, .int .i64 e3, .int .i64 e4, .int .i64 e5] 25 ∧ Bn wx q #[.int .i64 f0, .int .i64 f1, .int .i64 f2, .int .i64 f3, .int .i64 f4, .int .i64 f5] 25 ∧ Below n w wx ∧ Bn wx g cs 40 ∧ Bn wx (n + 1) #[.int .u64 m0, .int .u64 m1, .int .u64 m2, .int .u64 m3, .int .u64 m4, .int .u64 m5] 36 ∧ Bn wx (n + 2) #[.int .u64 l0, .int .u64 l1, .int .u64 l2, .int .u64 l3, .int .u64 l4, .int .u64 l5] 36)
      case first =>
        clear ke kf c0 c1 c2 c3 c4 c5 c6 c7 c8 c9 c10 c11
        have hsz : n ≤ wr.heap.size := by have := hB.size; omega
        have lg := G.lt
        have b4 := Bn.new wr #[.int .i64 e0, .int .i64 e1, .int .i64 e2, .int .i64 e3, .int .i64 e4, .int .i64 e5, .int .i64 f0, .int .i64 f1, .int .i64 f2, .int .i64 f3, .int .i64 f4, .int .i64 f5] 40
        replace G := G.alloc (.cells #[.int .i64 e0, .int .i64 e1, .int .i64 e2, .int .i64 e3, .int .i64 e4, .int .i64 e5, .int .i64 f0, .int .i64 f1, .int .i64 f2, .int .i64 f3, .int .i64 f4, .int .i64 f5] 40)
        replace bX1 := bX1.alloc (.cells #[.int .i64 e0, .int .i64 e1, .int .i64 e2, .int .i64 e3, .int .i64 e4, .int .i64 e5, .int .i64 f0, .int .i64 f1, .int .i64 f2, .int .i64 f3, .int .i64 f4, .int .i64 f5] 40)
        replace bX2 := bX2.alloc (.cells #[.int .i64 e0, .int .i64 e1, .int .i64 e2, .int .i64 e3, .int .i64 e4, .int .i64 e5, .int .i64 f0, .int .i64 f1, .int .i64 f2, .int .i64 f3, .int .i64 f4, .int .i64 f5] 40)
        replace hB := hB.alloc hsz (.cells #[.int .i64 e0, .int .i64 e1, .int .i64 e2, .int .i64 e3, .int .i64 e4, .int .i64 e5, .int .i64 f0, .int .i64 f1, .int .i64 f2, .int .i64 f3, .int .i64 f4, .int .i64 f5] 40)
        generalize (wr.alloc (.cells #[.int .i64 e0, .int .i64 e1, .int .i64 e2, .int .i64 e3, .int .i64 e4, .int .i64 e5, .int .i64 f0, .int .i64 f1, .int .i64 f2, .int .i64 f3, .int .i64 f4, .int .i64 f5] 40)) = v1 at *
        generalize wr.heap.size = g4 at *
        have lg4 := b4.lt
        have c0 : v1.cell? ⟨g4, 0, none⟩ = some (.int .i64 e0) := b4.cell 0 _ rfl
        have c1 : v1.cell? ⟨g4, 1, none⟩ = some (.int .i64 e1) := b4.cell 1 _ rfl
        have c2 : v1.cell? ⟨g4, 2, none⟩ = some (.int .i64 e2) := b4.cell 2 _ rfl
        have c3 : v1.cell? ⟨g4, 3, none⟩ = some (.int .i64 e3) := b4.cell 3 _ rfl
        have c4 : v1.cell? ⟨g4, 4, none⟩ = some (.int .i64 e4) := b4.cell 4 _ rfl
        have c5 : v1.cell? ⟨g4, 5, none⟩ = some (.int .i64 e5) := b4.cell 5 _ rfl
        have c6 : v1.cell? ⟨g4, 6, none⟩ = some (.int .i64 f0) := b4.cell 6 _ rfl
        have c7 : v1.cell? ⟨g4, 7, none⟩ = some (.int .i64 f1) := b4.cell 7 _ rfl
        have c8 : v1.cell? ⟨g4, 8, none⟩ = some (.int .i64 f2) := b4.cell 8 _ rfl
        have c9 : v1.cell? ⟨g4, 9, none⟩ = some (.int .i64 f3) := b4.cell 9 _ rfl
        have c10 : v1.cell? ⟨g4, 10, none⟩ = some (.int .i64 f4) := b4.cell 10 _ rfl
        have c11 : v1.cell? ⟨g4, 11, none⟩ = some (.int .i64 f5) := b4.cell 11 _ rfl
        clear b4
        go_region_held3 (fun w' => w'.cell? ⟨g4, 0, none⟩ = some (.int .i64 e0) ∧ w'.cell? ⟨g4, 1, none⟩ = some (.int .i64 e1) ∧ w'.cell? ⟨g4, 2, none⟩ = some (.int .i64 e2) ∧ w'.cell? ⟨g4, 3, none⟩ = some (.int .i64 e3) ∧ w'.cell? ⟨g4, 4, none⟩ = some (.int .i64 e4) ∧ w'.cell? ⟨g4, 5, none⟩ = some (.int .i64 e5) ∧ w'.cell? ⟨g4, 6, none⟩ = some (.int .i64 f0) ∧ w'.cell? ⟨g4, 7, none⟩ = some (.int .i64 f1) ∧ w'.cell? ⟨g4, 8, none⟩ = some (.int .i64 f2) ∧ w'.cell? ⟨g4, 9, none⟩ = some (.int .i64 f3) ∧ w'.cell? ⟨g4, 10, none⟩ = some (.int .i64 f4) ∧ w'.cell? ⟨g4, 11, none⟩ = some (.int .i64 f5))
          (first | with_reducible exact ⟨c0, c1, c2, c3, c4, c5, c6, c7, c8, c9, c10, c11⟩ | with_reducible exact ⟨cellDrewI c0, cellDrewI c1, cellDrewI c2, cellDrewI c3, cellDrewI c4, cellDrewI c5, cellDrewI c6, cellDrewI c7, cellDrewI c8, cellDrewI c9, cellDrewI c10, cellDrewI c11⟩ | with_reducible exact ⟨cellDrewI (cellAllocI c0), cellDrewI (cellAllocI c1), cellDrewI (cellAllocI c2), cellDrewI (cellAllocI c3), cellDrewI (cellAllocI c4), cellDrewI (cellAllocI c5), cellDrewI (cellAllocI c6), cellDrewI (cellAllocI c7), cellDrewI (cellAllocI c8), cellDrewI (cellAllocI c9), cellDrewI (cellAllocI c10), cellDrewI (cellAllocI c11)⟩ | with_reducible exact ⟨cellDrewI (cellAllocI (cellAllocI c0)), cellDrewI (cellAllocI (cellAllocI c1)), cellDrewI (cellAllocI (cellAllocI c2)), cellDrewI (cellAllocI (cellAllocI c3)), cellDrewI (cellAllocI (cellAllocI c4)), cellDrewI (cellAllocI (cellAllocI c5)), cellDrewI (cellAllocI (cellAllocI c6)), cellDrewI (cellAllocI (cellAllocI c7)), cellDrewI (cellAllocI (cellAllocI c8)), cellDrewI (cellAllocI (cellAllocI c9)), cellDrewI (cellAllocI (cellAllocI c10)), cellDrewI (cellAllocI (cellAllocI c11))⟩ | with_reducible exact ⟨cellAllocI (cellDrewI c0), cellAllocI (cellDrewI c1), cellAllocI (cellDrewI c2), cellAllocI (cellDrewI c3), cellAllocI (cellDrewI c4), cellAllocI (cellDrewI c5), cellAllocI (cellDrewI c6), cellAllocI (cellDrewI c7), cellAllocI (cellDrewI c8), cellAllocI (cellDrewI c9), cellAllocI (cellDrewI c10), cellAllocI (cellDrewI c11)⟩ | with_reducible exact ⟨cellAllocI (cellAllocI (cellDrewI c0)), cellAllocI (cellAllocI (cellDrewI c1)), cellAllocI (cellAllocI (cellDrewI c2)), cellAllocI (cellAllocI (cellDrewI c3)), cellAllocI (cellAllocI (cellDrewI c4)), cellAllocI (cellAllocI (cellDrewI c5)), cellAllocI (cellAllocI (cellDrewI c6)), cellAllocI (cellAllocI (cellDrewI c7)), cellAllocI (cellAllocI (cellDrewI c8)), cellAllocI (cellAllocI (cellDrewI c9)), cellAllocI (cellAllocI (cellDrewI c10)), cellAllocI (cellAllocI (cellDrewI c11))⟩)
          (fail)
        all_goals (go_wp2_with fail; go_meet)
        all_goals clear c0 c1 c2 c3 c4 c5 c6 c7 c8 c9 c10 c11
        all_goals have hsz1 : n ≤ v1.heap.size := by have := hB.size; omega
        all_goals have lg1 := G.lt
        all_goals refine ⟨_, _, rfl, rfl, ?_, ?_, ?_, ?_, ?_, ?_, ?_, ?_, ?_, ?_, ?_, ?_, ?_⟩
        all_goals (first | omega | (show _ < (World.alloc _ _).heap.size; simp <;> omega) | exact bnFst.drewI | exact bnSnd.drewI | exact ((G.alloc _).alloc _).drewI | exact ((hB.alloc hsz1 _).alloc (by simp; omega) _).drew | exact ((bX1.alloc _).alloc _).drewI | exact ((bX2.alloc _).alloc _).drewI)
      case rest =>
        as_aux_lemma =>
          obtain ⟨p, q, rfl, rfl, npq, np, nq, gp, gq, lp, lq, bP, bQ, hB, G, bX1, bX2⟩ := hcut
          clear c0 c1 c2 c3 c4 c5 c6 c7 c8 c9 c10 c11
          have bGx := G
          clear G
          obtain ⟨i0, i1, i2, i3, i4, i5, hi, hI⟩ := pof_any e0 e1 e2 e3 e4 e5 m0 m1 m2 m3 m4 m5 ke m0l m1l m2l m3l m4l m5l
          obtain ⟨j0, j1, j2, j3, j4, j5, hj, hJ⟩ := pof_any f0 f1 f2 f3 f4 f5 l0 l1 l2 l3 l4 l5 kf l0l l1l l2l l3l l4l l5l
          go_upto_region 7 with fail
          go_cut [11, 12] from 35 to 133 (fun va vb wx => ∃ c d : Nat, va = .pointer (some ⟨c, 0, none⟩) ∧ vb = .pointer (some ⟨d, 0, none⟩) ∧ c ≠ d ∧ p < c ∧ q < c ∧ p < d ∧ q < d ∧ c < wx.heap.size ∧ d < wx.heap.size ∧ Bn wx c #[.int .i64 i0, .int .i64 i1, .int .i64 i2, .int .i64 i3, .int .i64 i4, .int .i64 i5] 25 ∧ Bn wx d #[.int .i64 j0, .int .i64 j1, .int .i64 j2, .int .i64 j3, .int .i64 j4, .int .i64 j5] 25 ∧ Below n w wx ∧ Bn wx p #[.int .i64 e0, .int .i64 e1, .int .i64 e2, .int .i64 e3, .int .i64 e4, .int .i64 e5] 25 ∧ Bn wx q #[.int .i64 f0, .int .i64 f1, .int .i64 f2, .int .i64 f3, .int .i64 f4, .int .i64 f5] 25 ∧ Bn wx g cs 40 ∧ Bn wx (n + 1) #[.int .u64 m0, .int .u64 m1, .int .u64 m2, .int .u64 m3, .int .u64 m4, .int .u64 m5] 36 ∧ Bn wx (n + 2) #[.int .u64 l0, .int .u64 l1, .int .u64 l2, .int .u64 l3, .int .u64 l4, .int .u64 l5] 36)
          case first =>
            clear ke kf hi hj m0l m1l m2l m3l m4l m5l l0l l1l l2l l3l l4l l5l
            have npz : n ≤ wc.heap.size := by omega
            refine wp_region_inv (by kernel_rfl) (by kernel_rfl) (fun A listed a' w' => ∃ (l0_ l1_ l2_ l3_ l4_ l5_ l6_ l7_ l8_ l9_ : Bool) (x39_ x40_ x41_ x42_ x43_ x44_ x11_ x12_ : Value), (listed.getD 0 false = l0_ ∧ listed.getD 1 false = l1_ ∧ listed.getD 2 false = l2_ ∧ listed.getD 3 false = l3_ ∧ listed.getD 4 false = l4_ ∧ listed.getD 5 false = l5_ ∧ listed.getD 6 false = l6_ ∧ listed.getD 7 false = l7_ ∧ listed.getD 8 false = l8_ ∧ listed.getD 9 false = l9_) ∧ a' = ((((((((A.put (some 39) x39_).put (some 40) x40_).put (some 41) x41_).put (some 42) x42_).put (some 43) x43_).put (some 44) x44_).put (some 11) x11_).put (some 12) x12_) ∧ (l0_ = true → x39_ = (.agg #[.int .u64 m0, .int .u64 m1, .int .u64 m2, .int .u64 m3, .int .u64 m4, .int .u64 m5] : Value)) ∧ (l1_ = true → x40_ = (.agg #[.int .i64 e0, .int .i64 e1, .int .i64 e2, .int .i64 e3, .int .i64 e4, .int .i64 e5] : Value)) ∧ (l2_ = true → x41_ = (.agg #[.int .i64 i0, .int .i64 i1, .int .i64 i2, .int .i64 i3, .int .i64 i4, .int .i64 i5] : Value)) ∧ (l3_ = true → x42_ = (.agg #[.int .u64 l0, .int .u64 l1, .int .u64 l2, .int .u64 l3, .int .u64 l4, .int .u64 l5] : Value)) ∧ (l4_ = true → x43_ = (.agg #[.int .i64 f0, .int .i64 f1, .int .i64 f2, .int .i64 f3, .int .i64 f4, .int .i64 f5] : Value)) ∧ (l5_ = true → x44_ = (.agg #[.int .i64 j0, .int .i64 j1, .int .i64 j2, .int .i64 j3, .int .i64 j4, .int .i64 j5] : Value)) ∧ BnI wc.heap.size 25 l6_ l8_ w' x11_ x41_ ∧ BnI wc.heap.size 25 l7_ l9_ w' x12_ x44_ ∧ (l8_ = true → l6_ = true ∧ l2_ = true) ∧ (l9_ = true → l7_ = true ∧ l5_ = true) ∧ (l6_ = true → l7_ = true → x11_ ≠ x12_) ∧ Below wc.heap.size wc w') ?_ ?_ ?_
            · refine ⟨false, false, false, false, false, false, false, false, false, false, ?_, ?_, ?_, ?_, ?_, ?_, ?_, ?_, ⟨rfl, rfl, rfl, rfl, rfl, rfl, rfl, rfl, rfl, rfl⟩, ?_, (fun h => by cases h), (fun h => by cases h), (fun h => by cases h), (fun h => by cases h), (fun h => by cases h), (fun h => by cases h), (fun h => by cases h), (fun h => by cases h), (fun h => by cases h), (fun h => by cases h), (fun h => by cases h), (Below.refl _ _).drew⟩
              rotate_left 8
              with_reducible refine put_ex ?_ ?_
              with_reducible refine put_ex ?_ ?_
              with_reducible refine put_ex ?_ ?_
              with_reducible refine put_ex ?_ ?_
              with_reducible refine put_ex ?_ ?_
              with_reducible refine put_ex ?_ ?_
              with_reducible refine put_ex ?_ ?_
              with_reducible refine put_ex ?_ ?_
              with_reducible rfl
              all_goals first | (show _ < Array.size _; simp only [List.size_toArray, List.length_cons, List.length_nil]; omega) | skip
            · rintro listed a' w' i hn_ ⟨l0_, l1_, l2_, l3_, l4_, l5_, l6_, l7_, l8_, l9_, x39_, x40_, x41_, x42_, x43_, x44_, x11_, x12_, ⟨h0_, h1_, h2_, h3_, h4_, h5_, h6_, h7_, h8_, h9_⟩, rfl, i0_, i1_, i2_, i3_, i4_, i5_, q6_, q7_, s8_, s9_, d6_7, hW⟩ hi hnl hdp
              have hi' : i < 10 := hi
              clear hi
              rcases (by omega : i = 0 ∨ i = 1 ∨ i = 2 ∨ i = 3 ∨ i = 4 ∨ i = 5 ∨ i = 6 ∨ i = 7 ∨ i = 8 ∨ i = 9) with rfl | rfl | rfl | rfl | rfl | rfl | rfl | rfl | rfl | rfl
              · -- operation 0
                refine load_step _ rfl rfl _ _ rfl (n + 1) ?_ _ _ (bX1.keep hW) _ (show Try.prog.underlying 36 = some (.array 3 34) from by kernel_rfl) rfl (by kernel_rfl) ?_
                · (simp only [Act.put, List.setIfInBounds_toArray, List.set_cons_zero, List.set_cons_succ]; rfl)
                exact ⟨true, l1_, l2_, l3_, l4_, l5_, l6_, l7_, l8_, l9_, (.agg #[.int .u64 m0, .int .u64 m1, .int .u64 m2, .int .u64 m3, .int .u64 m4, .int .u64 m5] : Value), x40_, x41_, x42_, x43_, x44_, x11_, x12_, ⟨getD_same (by rw [hn_]; decide) _, (getD_other (by decide) _).trans h1_, (getD_other (by decide) _).trans h2_, (getD_other (by decide) _).trans h3_, (getD_other (by decide) _).trans h4_, (getD_other (by decide) _).trans h5_, (getD_other (by decide) _).trans h6_, (getD_other (by decide) _).trans h7_, (getD_other (by decide) _).trans h8_, (getD_other (by decide) _).trans h9_⟩, (by first | (simp only [Act.put, List.setIfInBounds_toArray, List.set_cons_zero, List.set_cons_succ]; done) | (simp only [Act.put, List.setIfInBounds_toArray, List.set_cons_zero, List.set_cons_succ]; rfl)), (fun _ => rfl), i1_, i2_, i3_, i4_, i5_, q6_, q7_, s8_, s9_, d6_7, hW⟩
              · -- operation 1
                refine load_step _ rfl rfl _ _ rfl p ?_ _ _ (bP.keep hW) _ (show Try.prog.underlying 25 = some (.array 3 23) from by kernel_rfl) rfl (by kernel_rfl) ?_
                · (simp only [Act.put, List.setIfInBounds_toArray, List.set_cons_zero, List.set_cons_succ]; rfl)
                exact ⟨l0_, true, l2_, l3_, l4_, l5_, l6_, l7_, l8_, l9_, x39_, (.agg #[.int .i64 e0, .int .i64 e1, .int .i64 e2, .int .i64 e3, .int .i64 e4, .int .i64 e5] : Value), x41_, x42_, x43_, x44_, x11_, x12_, ⟨(getD_other (by decide) _).trans h0_, getD_same (by rw [hn_]; decide) _, (getD_other (by decide) _).trans h2_, (getD_other (by decide) _).trans h3_, (getD_other (by decide) _).trans h4_, (getD_other (by decide) _).trans h5_, (getD_other (by decide) _).trans h6_, (getD_other (by decide) _).trans h7_, (getD_other (by decide) _).trans h8_, (getD_other (by decide) _).trans h9_⟩, (by first | (simp only [Act.put, List.setIfInBounds_toArray, List.set_cons_zero, List.set_cons_succ]; done) | (simp only [Act.put, List.setIfInBounds_toArray, List.set_cons_zero, List.set_cons_succ]; rfl)), i0_, (fun _ => rfl), i2_, i3_, i4_, i5_, q6_, q7_, s8_, s9_, d6_7, hW⟩
              · -- operation 2
                have k0_ := hdp 0 (List.elem_iff.1 (by kernel_rfl)); rw [h0_] at k0_; subst k0_
                have k1_ := hdp 1 (List.elem_iff.1 (by kernel_rfl)); rw [h1_] at k1_; subst k1_
                obtain rfl := i0_ rfl
                obtain rfl := i1_ rfl
                have e8_ : l8_ = false := by cases l8_; rfl; have := (s8_ rfl).2; subst this; rw [hnl] at h2_; cases h2_
                subst e8_
                refine wpOp_step rfl (fun K hK => ?_)
                go_simp
                go_at_call 9
                refine (hI _).mono ?_
                rintro e_ uz ⟨rfl, hb⟩
                try go_simp
                refine hK _ _ ⟨true, true, true, l3_, l4_, l5_, l6_, l7_, false, l9_, (.agg #[.int .u64 m0, .int .u64 m1, .int .u64 m2, .int .u64 m3, .int .u64 m4, .int .u64 m5] : Value), (.agg #[.int .i64 e0, .int .i64 e1, .int .i64 e2, .int .i64 e3, .int .i64 e4, .int .i64 e5] : Value), (.agg #[.int .i64 i0, .int .i64 i1, .int .i64 i2, .int .i64 i3, .int .i64 i4, .int .i64 i5] : Value), x42_, x43_, x44_, x11_, x12_, ⟨(getD_other (by decide) _).trans h0_, (getD_other (by decide) _).trans h1_, getD_same (by rw [hn_]; decide) _, (getD_other (by decide) _).trans h3_, (getD_other (by decide) _).trans h4_, (getD_other (by decide) _).trans h5_, (getD_other (by decide) _).trans h6_, (getD_other (by decide) _).trans h7_, (getD_other (by decide) _).trans h8_, (getD_other (by decide) _).trans h9_⟩, (by first | (simp only [Act.put, List.setIfInBounds_toArray, List.set_cons_zero, List.set_cons_succ]; done) | (simp only [Act.put, List.setIfInBounds_toArray, List.set_cons_zero, List.set_cons_succ]; rfl)), (fun _ => rfl), (fun _ => rfl), (fun _ => rfl), i3_, i4_, i5_, (q6_.keep hb).val, (q7_.keep hb), (fun h => by cases h), s9_, d6_7, (hW.trans (hb.mono hW.size))⟩
              · -- operation 3
                refine load_step _ rfl rfl _ _ rfl (n + 2) ?_ _ _ (bX2.keep hW) _ (show Try.prog.underlying 36 = some (.array 3 34) from by kernel_rfl) rfl (by kernel_rfl) ?_
                · (simp only [Act.put, List.setIfInBounds_toArray, List.set_cons_zero, List.set_cons_succ]; rfl)
                exact ⟨l0_, l1_, l2_, true, l4_, l5_, l6_, l7_, l8_, l9_, x39_, x40_, x41_, (.agg #[.int .u64 l0, .int .u64 l1, .int .u64 l2, .int .u64 l3, .int .u64 l4, .int .u64 l5] : Value), x43_, x44_, x11_, x12_, ⟨(getD_other (by decide) _).trans h0_, (getD_other (by decide) _).trans h1_, (getD_other (by decide) _).trans h2_, getD_same (by rw [hn_]; decide) _, (getD_other (by decide) _).trans h4_, (getD_other (by decide) _).trans h5_, (getD_other (by decide) _).trans h6_, (getD_other (by decide) _).trans h7_, (getD_other (by decide) _).trans h8_, (getD_other (by decide) _).trans h9_⟩, (by first | (simp only [Act.put, List.setIfInBounds_toArray, List.set_cons_zero, List.set_cons_succ]; done) | (simp only [Act.put, List.setIfInBounds_toArray, List.set_cons_zero, List.set_cons_succ]; rfl)), i0_, i1_, i2_, (fun _ => rfl), i4_, i5_, q6_, q7_, s8_, s9_, d6_7, hW⟩
              · -- operation 4
                refine load_step _ rfl rfl _ _ rfl q ?_ _ _ (bQ.keep hW) _ (show Try.prog.underlying 25 = some (.array 3 23) from by kernel_rfl) rfl (by kernel_rfl) ?_
                · (simp only [Act.put, List.setIfInBounds_toArray, List.set_cons_zero, List.set_cons_succ]; rfl)
                exact ⟨l0_, l1_, l2_, l3_, true, l5_, l6_, l7_, l8_, l9_, x39_, x40_, x41_, x42_, (.agg #[.int .i64 f0, .int .i64 f1, .int .i64 f2, .int .i64 f3, .int .i64 f4, .int .i64 f5] : Value), x44_, x11_, x12_, ⟨(getD_other (by decide) _).trans h0_, (getD_other (by decide) _).trans h1_, (getD_other (by decide) _).trans h2_, (getD_other (by decide) _).trans h3_, getD_same (by rw [hn_]; decide) _, (getD_other (by decide) _).trans h5_, (getD_other (by decide) _).trans h6_, (getD_other (by decide) _).trans h7_, (getD_other (by decide) _).trans h8_, (getD_other (by decide) _).trans h9_⟩, (by first | (simp only [Act.put, List.setIfInBounds_toArray, List.set_cons_zero, List.set_cons_succ]; done) | (simp only [Act.put, List.setIfInBounds_toArray, List.set_cons_zero, List.set_cons_succ]; rfl)), i0_, i1_, i2_, i3_, (fun _ => rfl), i5_, q6_, q7_, s8_, s9_, d6_7, hW⟩
              · -- operation 5
                have k3_ := hdp 3 (List.elem_iff.1 (by kernel_rfl)); rw [h3_] at k3_; subst k3_
                have k4_ := hdp 4 (List.elem_iff.1 (by kernel_rfl)); rw [h4_] at k4_; subst k4_
                obtain rfl := i3_ rfl
                obtain rfl := i4_ rfl
                have e9_ : l9_ = false := by cases l9_; rfl; have := (s9_ rfl).2; subst this; rw [hnl] at h5_; cases h5_
                subst e9_
                refine wpOp_step rfl (fun K hK => ?_)
                go_simp
                go_at_call 9
                refine (hJ _).mono ?_
                rintro e_ uz ⟨rfl, hb⟩
                try go_simp
                refine hK _ _ ⟨l0_, l1_, l2_, true, true, true, l6_, l7_, l8_, false, x39_, x40_, x41_, (.agg #[.int .u64 l0, .int .u64 l1, .int .u64 l2, .int .u64 l3, .int .u64 l4, .int .u64 l5] : Value), (.agg #[.int .i64 f0, .int .i64 f1, .int .i64 f2, .int .i64 f3, .int .i64 f4, .int .i64 f5] : Value), (.agg #[.int .i64 j0, .int .i64 j1, .int .i64 j2, .int .i64 j3, .int .i64 j4, .int .i64 j5] : Value), x11_, x12_, ⟨(getD_other (by decide) _).trans h0_, (getD_other (by decide) _).trans h1_, (getD_other (by decide) _).trans h2_, (getD_other (by decide) _).trans h3_, (getD_other (by decide) _).trans h4_, getD_same (by rw [hn_]; decide) _, (getD_other (by decide) _).trans h6_, (getD_other (by decide) _).trans h7_, (getD_other (by decide) _).trans h8_, (getD_other (by decide) _).trans h9_⟩, (by first | (simp only [Act.put, List.setIfInBounds_toArray, List.set_cons_zero, List.set_cons_succ]; done) | (simp only [Act.put, List.setIfInBounds_toArray, List.set_cons_zero, List.set_cons_succ]; rfl)), i0_, i1_, i2_, (fun _ => rfl), (fun _ => rfl), (fun _ => rfl), (q6_.keep hb), (q7_.keep hb).val, s8_, (fun h => by cases h), d6_7, (hW.trans (hb.mono hW.size))⟩
              · -- operation 6
                have e8_ : l8_ = false := by cases l8_; rfl; have := (s8_ rfl).1; subst this; rw [hnl] at h6_; cases h6_
                subst e8_
                refine wpOp_step rfl (fun K hK => ?_)
                go_simp
                refine hK _ _ ⟨l0_, l1_, l2_, l3_, l4_, l5_, true, l7_, false, l9_, x39_, x40_, x41_, x42_, x43_, x44_, _, x12_, ⟨(getD_other (by decide) _).trans h0_, (getD_other (by decide) _).trans h1_, (getD_other (by decide) _).trans h2_, (getD_other (by decide) _).trans h3_, (getD_other (by decide) _).trans h4_, (getD_other (by decide) _).trans h5_, getD_same (by rw [hn_]; decide) _, (getD_other (by decide) _).trans h7_, (getD_other (by decide) _).trans h8_, (getD_other (by decide) _).trans h9_⟩, (by first | (simp only [Act.put, List.setIfInBounds_toArray, List.set_cons_zero, List.set_cons_succ]; done) | (simp only [Act.put, List.setIfInBounds_toArray, List.set_cons_zero, List.set_cons_succ]; rfl)), i0_, i1_, i2_, i3_, i4_, i5_, (fun _ => ⟨_, _, _, _, _, _, _, rfl, hW.size, Bn.new _ _ _, (fun h => by cases h)⟩), (q7_.alloc _), (fun h => by cases h), s9_, (fun _ h => (q7_.ne h).symm), (hW.alloc hW.size _)⟩
              · -- operation 7
                have e9_ : l9_ = false := by cases l9_; rfl; have := (s9_ rfl).1; subst this; rw [hnl] at h7_; cases h7_
                subst e9_
                refine wpOp_step rfl (fun K hK => ?_)
                go_simp
                refine hK _ _ ⟨l0_, l1_, l2_, l3_, l4_, l5_, l6_, true, l8_, false, x39_, x40_, x41_, x42_, x43_, x44_, x11_, _, ⟨(getD_other (by decide) _).trans h0_, (getD_other (by decide) _).trans h1_, (getD_other (by decide) _).trans h2_, (getD_other (by decide) _).trans h3_, (getD_other (by decide) _).trans h4_, (getD_other (by decide) _).trans h5_, (getD_other (by decide) _).trans h6_, getD_same (by rw [hn_]; decide) _, (getD_other (by decide) _).trans h8_, (getD_other (by decide) _).trans h9_⟩, (by first | (simp only [Act.put, List.setIfInBounds_toArray, List.set_cons_zero, List.set_cons_succ]; done) | (simp only [Act.put, List.setIfInBounds_toArray, List.set_cons_zero, List.set_cons_succ]; rfl)), i0_, i1_, i2_, i3_, i4_, i5_, (q6_.alloc _), (fun _ => ⟨_, _, _, _, _, _, _, rfl, hW.size, Bn.new _ _ _, (fun h => by cases h)⟩), s8_, (fun h => by cases h), (fun h _ => q6_.ne h), (hW.alloc hW.size _)⟩
              · -- operation 8
                have k6_ := hdp 6 (List.elem_iff.1 (by kernel_rfl)); rw [h6_] at k6_; subst k6_
                have k2_ := hdp 2 (List.elem_iff.1 (by kernel_rfl)); rw [h2_] at k2_; subst k2_
                obtain rfl := i2_ rfl
                obtain ⟨gx, u0, u1, u2, u3, u4, u5, rfl, hgx, hbx, hst⟩ := q6_ rfl
                refine store_step _ rfl rfl _ _ _ rfl gx #[.int .i64 i0, .int .i64 i1, .int .i64 i2, .int .i64 i3, .int .i64 i4, .int .i64 i5] ?_ ?_ _ _ hbx (by kernel_rfl) rfl (by simp [Value.oneCell']) ?_
                · (simp only [Act.put, List.setIfInBounds_toArray, List.set_cons_zero, List.set_cons_succ]; rfl)
                · (simp only [Act.put, List.setIfInBounds_toArray, List.set_cons_zero, List.set_cons_succ]; rfl)
                exact ⟨l0_, l1_, true, l3_, l4_, l5_, true, l7_, true, l9_, x39_, x40_, (.agg #[.int .i64 i0, .int .i64 i1, .int .i64 i2, .int .i64 i3, .int .i64 i4, .int .i64 i5] : Value), x42_, x43_, x44_, _, x12_, ⟨(getD_other (by decide) _).trans h0_, (getD_other (by decide) _).trans h1_, (getD_other (by decide) _).trans h2_, (getD_other (by decide) _).trans h3_, (getD_other (by decide) _).trans h4_, (getD_other (by decide) _).trans h5_, (getD_other (by decide) _).trans h6_, (getD_other (by decide) _).trans h7_, getD_same (by rw [hn_]; decide) _, (getD_other (by decide) _).trans h9_⟩, put_none _ _, i0_, i1_, (fun _ => rfl), i3_, i4_, i5_, (fun _ => ⟨_, _, _, _, _, _, _, rfl, hgx, hbx.setRow _, fun _ => rfl⟩), (q7_.far (fun h e => d6_7 rfl h e.symm) _), (fun _ => ⟨rfl, rfl⟩), s9_, d6_7, (belowRow hW hgx _)⟩
              · -- operation 9
                have k7_ := hdp 7 (List.elem_iff.1 (by kernel_rfl)); rw [h7_] at k7_; subst k7_
                have k5_ := hdp 5 (List.elem_iff.1 (by kernel_rfl)); rw [h5_] at k5_; subst k5_
                obtain rfl := i5_ rfl
                obtain ⟨gx, u0, u1, u2, u3, u4, u5, rfl, hgx, hbx, hst⟩ := q7_ rfl
                refine store_step _ rfl rfl _ _ _ rfl gx #[.int .i64 j0, .int .i64 j1, .int .i64 j2, .int .i64 j3, .int .i64 j4, .int .i64 j5] ?_ ?_ _ _ hbx (by kernel_rfl) rfl (by simp [Value.oneCell']) ?_
                · (simp only [Act.put, List.setIfInBounds_toArray, List.set_cons_zero, List.set_cons_succ]; rfl)
                · (simp only [Act.put, List.setIfInBounds_toArray, List.set_cons_zero, List.set_cons_succ]; rfl)
                exact ⟨l0_, l1_, l2_, l3_, l4_, true, l6_, true, l8_, true, x39_, x40_, x41_, x42_, x43_, (.agg #[.int .i64 j0, .int .i64 j1, .int .i64 j2, .int .i64 j3, .int .i64 j4, .int .i64 j5] : Value), x11_, _, ⟨(getD_other (by decide) _).trans h0_, (getD_other (by decide) _).trans h1_, (getD_other (by decide) _).trans h2_, (getD_other (by decide) _).trans h3_, (getD_other (by decide) _).trans h4_, (getD_other (by decide) _).trans h5_, (getD_other (by decide) _).trans h6_, (getD_other (by decide) _).trans h7_, (getD_other (by decide) _).trans h8_, getD_same (by rw [hn_]; decide) _⟩, put_none _ _, i0_, i1_, i2_, i3_, i4_, (fun _ => rfl), (q6_.far (fun h e => d6_7 h rfl e) _), (fun _ => ⟨_, _, _, _, _, _, _, rfl, hgx, hbx.setRow _, fun _ => rfl⟩), s8_, (fun _ => ⟨rfl, rfl⟩), d6_7, (belowRow hW hgx _)⟩
            · rintro listed a' w' ⟨l0_, l1_, l2_, l3_, l4_, l5_, l6_, l7_, l8_, l9_, x39_, x40_, x41_, x42_, x43_, x44_, x11_, x12_, ⟨h0_, h1_, h2_, h3_, h4_, h5_, h6_, h7_, h8_, h9_⟩, rfl, i0_, i1_, i2_, i3_, i4_, i5_, q6_, q7_, s8_, s9_, d6_7, hW⟩ hall
              have k0_ := hall 0 (by decide)
              rw [h0_] at k0_
              subst k0_
              have k1_ := hall 1 (by decide)
              rw [h1_] at k1_
              subst k1_
              have k2_ := hall 2 (by decide)
              rw [h2_] at k2_
              subst k2_
              have k3_ := hall 3 (by decide)
              rw [h3_] at k3_
              subst k3_
              have k4_ := hall 4 (by decide)
              rw [h4_] at k4_
              subst k4_
              have k5_ := hall 5 (by decide)
              rw [h5_] at k5_
              subst k5_
              have k6_ := hall 6 (by decide)
              rw [h6_] at k6_
              subst k6_
              have k7_ := hall 7 (by decide)
              rw [h7_] at k7_
              subst k7_
              have k8_ := hall 8 (by decide)
              rw [h8_] at k8_
              subst k8_
              have k9_ := hall 9 (by decide)
              rw [h9_] at k9_
              subst k9_
              obtain rfl := i0_ rfl
              obtain rfl := i1_ rfl
              obtain rfl := i2_ rfl
              obtain rfl := i3_ rfl
              obtain rfl := i4_ rfl
              obtain rfl := i5_ rfl
              obtain ⟨g6_, _, _, _, _, _, _, rfl, hg6_, b6_, e6_⟩ := q6_ rfl
              have e6_' := e6_ rfl
              obtain ⟨g7_, _, _, _, _, _, _, rfl, hg7_, b7_, e7_⟩ := q7_ rfl
              have e7_' := e7_ rfl
              simp only [Value.agg.injEq, Array.mk.injEq, List.cons.injEq, and_true] at e6_' e7_'
              obtain ⟨rfl, rfl, rfl, rfl, rfl, rfl⟩ := e6_'
              obtain ⟨rfl, rfl, rfl, rfl, rfl, rfl⟩ := e7_'
              have n6_7 : g6_ ≠ g7_ := fun e => d6_7 rfl rfl (by rw [e])
              clear hall
              replace bP := bP.keep hW
              replace bQ := bQ.keep hW
              replace bGx := bGx.keep hW
              replace bX1 := bX1.keep hW
              replace bX2 := bX2.keep hW
              replace hB := hB.trans (hW.mono (by omega))
              go_simp
              go_wp2_with fail
              go_meet
              have l6_ := b6_.lt
              have l7_ := b7_.lt
              exact ⟨g6_, g7_, rfl, rfl, n6_7, by omega, by omega, by omega, by omega, l6_, l7_, b6_, b7_, hB, bP, bQ, bGx, bX1, bX2⟩
          case rest =>
            as_aux_lemma =>
              clear hI hJ hB bP bQ bGx bX1 bX2
              obtain ⟨c, d, rfl, rfl, ncd, pc, qc, pd, qd, lc, ld, bC, bD, hB, bP, bQ, bGx, bX1, bX2⟩ := hcut
              have hidx : ∀ j : Int, 0 ≤ j → j < 3 → ∃ (c : Nat) (A B : VR), (∀ w, (Instr.index 43 (.agg #[.func (.func 10) #[] #[], .func (.func 11) #[] #[], .func (.func 12) #[] #[]]) (.int .i64 j)).run Try.prog w = .ok (.func (.func c) #[] #[]) w) ∧ (∀ (args : Array Value) (w : World), Sem.run Try.prog (callFunc c args) w = .ok (.enter c args) w) ∧ (∀ w, Calls Try.prog c #[.agg #[.int .i64 i0, .int .i64 i1, .int .i64 i2, .int .i64 i3, .int .i64 i4, .int .i64 i5], .agg #[.int .i64 j0, .int .i64 j1, .int .i64 j2, .int .i64 j3, .int .i64 j4, .int .i64 j5]] w fun r w' => r = .returned (.tuple #[.agg #[.int .i64 A.x0, .int .i64 A.x1, .int .i64 A.y0, .int .i64 A.y1, .int .i64 A.z0, .int .i64 A.z1], .int .i64 A.e]) ∧ Below w.heap.size w w') ∧ (∀ w, Calls Try.prog c #[.agg #[.int .i64 e0, .int .i64 e1, .int .i64 e2, .int .i64 e3, .int .i64 e4, .int .i64 e5], .agg #[.int .i64 f0, .int .i64 f1, .int .i64 f2, .int .i64 f3, .int .i64 f4, .int .i64 f5]] w fun r w' => r = .returned (.tuple #[.agg #[.int .i64 B.x0, .int .i64 B.x1, .int .i64 B.y0, .int .i64 B.y1, .int .i64 B.z0, .int .i64 B.z1], .int .i64 B.e]) ∧ Below w.heap.size w w') ∧ NnV A B := by
                intro j h0 h1
                obtain rfl | rfl | rfl : j = 0 ∨ j = 1 ∨ j = 2 := by omega
                · exact ⟨_, vAddR i0 i1 i2 i3 i4 i5 j0 j1 j2 j3 j4 j5, vAddR e0 e1 e2 e3 e4 e5 f0 f1 f2 f3 f4 f5, fun _ => by kernel_rfl, fun _ _ => by kernel_rfl, fun w => pAdd_any i0 i1 i2 i3 i4 i5 j0 j1 j2 j3 j4 j5 w, fun w => pAdd_any e0 e1 e2 e3 e4 e5 f0 f1 f2 f3 f4 f5 w, nar_vAdd hi hj⟩
                · exact ⟨_, vSubR i0 i1 i2 i3 i4 i5 j0 j1 j2 j3 j4 j5, vSubR e0 e1 e2 e3 e4 e5 f0 f1 f2 f3 f4 f5, fun _ => by kernel_rfl, fun _ _ => by kernel_rfl, fun w => pSub_any i0 i1 i2 i3 i4 i5 j0 j1 j2 j3 j4 j5 w, fun w => pSub_any e0 e1 e2 e3 e4 e5 f0 f1 f2 f3 f4 f5 w, nar_vSub hi hj⟩
                · exact ⟨_, vCrossR i0 i1 i2 i3 i4 i5 j0 j1 j2 j3 j4 j5, vCrossR e0 e1 e2 e3 e4 e5 f0 f1 f2 f3 f4 f5, fun _ => by kernel_rfl, fun _ _ => by kernel_rfl, fun w => pCross_any i0 i1 i2 i3 i4 i5 j0 j1 j2 j3 j4 j5 w, fun w => pCross_any e0 e1 e2 e3 e4 e5 f0 f1 f2 f3 f4 f5 w, nar_vCross hi hj⟩
              have h1 := fun w => pUnit_any i0 i1 i2 i3 i4 i5 w
              have h2 := fun w => pUnit_any e0 e1 e2 e3 e4 e5 w
              have N1 := nar_vUnit hi
              have h3 := fun w => pDot_any i0 i1 i2 i3 i4 i5 j0 j1 j2 j3 j4 j5 w
              have h4 := fun w => pDot_any e0 e1 e2 e3 e4 e5 f0 f1 f2 f3 f4 f5 w
              have N2 := nar_vDot hi hj
              have h5 := fun w => pNorm_any i0 i1 i2 i3 i4 i5 w
              have h6 := fun w => pNorm_any e0 e1 e2 e3 e4 e5 w
              have N3 := nar_vNorm hi
              generalize vUnitR i0 i1 i2 i3 i4 i5 = U at *
              generalize vUnitR e0 e1 e2 e3 e4 e5 = V at *
              generalize vDotR i0 i1 i2 i3 i4 i5 j0 j1 j2 j3 j4 j5 = R at *
              generalize vDotR e0 e1 e2 e3 e4 e5 f0 f1 f2 f3 f4 f5 = S at *
              generalize vNormP i0 i1 i2 i3 i4 i5 = T at *
              generalize vNormP e0 e1 e2 e3 e4 e5 = O at *
              clear ke kf hi hj
              have hU := fun w => inside_true U.x0 U.x1 U.y0 U.y1 U.z0 U.z1 U.e V.x0 V.x1 V.y0 V.y1 V.z0 V.z1 V.e w N1
              clear N1
              replace N2 := Lib.hid N2
              replace N3 := Lib.hid N3
              replace hidx := Lib.hid hidx
              go_wp2_with fail
              go_loopw [46] (fun vi wx => ∃ j : Int, 0 ≤ j ∧ j ≤ 3 ∧ vi = .int .i64 j ∧ Below n w wx ∧ Bn wx p #[.int .i64 e0, .int .i64 e1, .int .i64 e2, .int .i64 e3, .int .i64 e4, .int .i64 e5] 25 ∧ Bn wx q #[.int .i64 f0, .int .i64 f1, .int .i64 f2, .int .i64 f3, .int .i64 f4, .int .i64 f5] 25 ∧ Bn wx g cs 40 ∧ Bn wx (n + 1) #[.int .u64 m0, .int .u64 m1, .int .u64 m2, .int .u64 m3, .int .u64 m4, .int .u64 m5] 36 ∧ Bn wx (n + 2) #[.int .u64 l0, .int .u64 l1, .int .u64 l2, .int .u64 l3, .int .u64 l4, .int .u64 l5] 36 ∧ Bn wx c #[.int .i64 i0, .int .i64 i1, .int .i64 i2, .int .i64 i3, .int .i64 i4, .int .i64 i5] 25 ∧ Bn wx d #[.int .i64 j0, .int .i64 j1, .int .i64 j2, .int .i64 j3, .int .i64 j4, .int .i64 j5] 25) (fun vi _ => 3 - (intOf vi).toNat)
              case atStart => exact ⟨0, by omega, by omega, rfl, hB, bP, bQ, bGx, bX1, bX2, bC, bD⟩
              case round =>
                clear hB bP bQ bGx bX1 bX2 bC bD
                obtain ⟨j, z0, z2, rfl, hB, bP, bQ, bGx, bX1, bX2, bC, bD⟩ := hrel
                by_cases hj : j < 3
                · obtain ⟨c_, A, B, hi, hrun, m1, m2, hn1⟩ := hidx.out j z0 hj
                  have hU1 := fun w => inside_true A.x0 A.x1 A.y0 A.y1 A.z0 A.z1 A.e B.x0 B.x1 B.y0 B.y1 B.z0 B.z1 B.e w hn1
                  clear hn1 hidx h1 h2 h3 h4 h5 h6 hU
                  have cC0 : wr.cell? ⟨c, 0, none⟩ = some (.int .i64 i0) := bC.cell 0 _ rfl
                  have cC1 : wr.cell? ⟨c, 1, none⟩ = some (.int .i64 i1) := bC.cell 1 _ rfl
                  have cC2 : wr.cell? ⟨c, 2, none⟩ = some (.int .i64 i2) := bC.cell 2 _ rfl
                  have cC3 : wr.cell? ⟨c, 3, none⟩ = some (.int .i64 i3) := bC.cell 3 _ rfl
                  have cC4 : wr.cell? ⟨c, 4, none⟩ = some (.int .i64 i4) := bC.cell 4 _ rfl
                  have cC5 : wr.cell? ⟨c, 5, none⟩ = some (.int .i64 i5) := bC.cell 5 _ rfl
                  have kC := bC.lt
                  have cD0 : wr.cell? ⟨d, 0, none⟩ = some (.int .i64 j0) := bD.cell 0 _ rfl
                  have cD1 : wr.cell? ⟨d, 1, none⟩ = some (.int .i64 j1) := bD.cell 1 _ rfl
                  have cD2 : wr.cell? ⟨d, 2, none⟩ = some (.int .i64 j2) := bD.cell 2 _ rfl
                  have cD3 : wr.cell? ⟨d, 3, none⟩ = some (.int .i64 j3) := bD.cell 3 _ rfl
                  have cD4 : wr.cell? ⟨d, 4, none⟩ = some (.int .i64 j4) := bD.cell 4 _ rfl
                  have cD5 : wr.cell? ⟨d, 5, none⟩ = some (.int .i64 j5) := bD.cell 5 _ rfl
                  have kD := bD.lt
                  go_wp2_with fail
                  refine (m1 _).mono ?_
                  rintro r u1 ⟨rfl, hb⟩
                  replace bP := bP.keep hb
                  replace bQ := bQ.keep hb
                  replace bGx := bGx.keep hb
                  replace bX1 := bX1.keep hb
                  replace bX2 := bX2.keep hb
                  replace bC := bC.keep hb
                  replace bD := bD.keep hb
                  replace hB := hB.trans (hb.mono (by have := hB.size; omega))
                  clear hb cC0 cC1 cC2 cC3 cC4 cC5 kC cD0 cD1 cD2 cD3 cD4 cD5 kD
                  have lP := bP.lt
                  have lQ := bQ.lt
                  have lGx := bGx.lt
                  have lX1 := bX1.lt
                  have lX2 := bX2.lt
                  have lC := bC.lt
                  have lD := bD.lt
                  have hsz : n ≤ u1.heap.size := by have := hB.size; omega
                  have bE := Bn.new u1 #[.int .i64 A.x0, .int .i64 A.x1, .int .i64 A.y0, .int .i64 A.y1, .int .i64 A.z0, .int .i64 A.z1] 25
                  replace bP := bP.alloc (.cells #[.int .i64 A.x0, .int .i64 A.x1, .int .i64 A.y0, .int .i64 A.y1, .int .i64 A.z0, .int .i64 A.z1] 25)
                  replace bQ := bQ.alloc (.cells #[.int .i64 A.x0, .int .i64 A.x1, .int .i64 A.y0, .int .i64 A.y1, .int .i64 A.z0, .int .i64 A.z1] 25)
                  replace bGx := bGx.alloc (.cells #[.int .i64 A.x0, .int .i64 A.x1, .int .i64 A.y0, .int .i64 A.y1, .int .i64 A.z0, .int .i64 A.z1] 25)
                  replace bX1 := bX1.alloc (.cells #[.int .i64 A.x0, .int .i64 A.x1, .int .i64 A.y0, .int .i64 A.y1, .int .i64 A.z0, .int .i64 A.z1] 25)
                  replace bX2 := bX2.alloc (.cells #[.int .i64 A.x0, .int .i64 A.x1, .int .i64 A.y0, .int .i64 A.y1, .int .i64 A.z0, .int .i64 A.z1] 25)
                  replace bC := bC.alloc (.cells #[.int .i64 A.x0, .int .i64 A.x1, .int .i64 A.y0, .int .i64 A.y1, .int .i64 A.z0, .int .i64 A.z1] 25)
                  replace bD := bD.alloc (.cells #[.int .i64 A.x0, .int .i64 A.x1, .int .i64 A.y0, .int .i64 A.y1, .int .i64 A.z0, .int .i64 A.z1] 25)
                  replace hB := hB.alloc hsz (.cells #[.int .i64 A.x0, .int .i64 A.x1, .int .i64 A.y0, .int .i64 A.y1, .int .i64 A.z0, .int .i64 A.z1] 25)
                  have cP0 : (u1.alloc (.cells #[.int .i64 A.x0, .int .i64 A.x1, .int .i64 A.y0, .int .i64 A.y1, .int .i64 A.z0, .int .i64 A.z1] 25)).cell? ⟨p, 0, none⟩ = some (.int .i64 e0) := bP.cell 0 _ rfl
                  have cP1 : (u1.alloc (.cells #[.int .i64 A.x0, .int .i64 A.x1, .int .i64 A.y0, .int .i64 A.y1, .int .i64 A.z0, .int .i64 A.z1] 25)).cell? ⟨p, 1, none⟩ = some (.int .i64 e1) := bP.cell 1 _ rfl
                  have cP2 : (u1.alloc (.cells #[.int .i64 A.x0, .int .i64 A.x1, .int .i64 A.y0, .int .i64 A.y1, .int .i64 A.z0, .int .i64 A.z1] 25)).cell? ⟨p, 2, none⟩ = some (.int .i64 e2) := bP.cell 2 _ rfl
                  have cP3 : (u1.alloc (.cells #[.int .i64 A.x0, .int .i64 A.x1, .int .i64 A.y0, .int .i64 A.y1, .int .i64 A.z0, .int .i64 A.z1] 25)).cell? ⟨p, 3, none⟩ = some (.int .i64 e3) := bP.cell 3 _ rfl
                  have cP4 : (u1.alloc (.cells #[.int .i64 A.x0, .int .i64 A.x1, .int .i64 A.y0, .int .i64 A.y1, .int .i64 A.z0, .int .i64 A.z1] 25)).cell? ⟨p, 4, none⟩ = some (.int .i64 e4) := bP.cell 4 _ rfl
                  have cP5 : (u1.alloc (.cells #[.int .i64 A.x0, .int .i64 A.x1, .int .i64 A.y0, .int .i64 A.y1, .int .i64 A.z0, .int .i64 A.z1] 25)).cell? ⟨p, 5, none⟩ = some (.int .i64 e5) := bP.cell 5 _ rfl
                  have kP := bP.lt
                  have cQ0 : (u1.alloc (.cells #[.int .i64 A.x0, .int .i64 A.x1, .int .i64 A.y0, .int .i64 A.y1, .int .i64 A.z0, .int .i64 A.z1] 25)).cell? ⟨q, 0, none⟩ = some (.int .i64 f0) := bQ.cell 0 _ rfl
                  have cQ1 : (u1.alloc (.cells #[.int .i64 A.x0, .int .i64 A.x1, .int .i64 A.y0, .int .i64 A.y1, .int .i64 A.z0, .int .i64 A.z1] 25)).cell? ⟨q, 1, none⟩ = some (.int .i64 f1) := bQ.cell 1 _ rfl
                  have cQ2 : (u1.alloc (.cells #[.int .i64 A.x0, .int .i64 A.x1, .int .i64 A.y0, .int .i64 A.y1, .int .i64 A.z0, .int .i64 A.z1] 25)).cell? ⟨q, 2, none⟩ = some (.int .i64 f2) := bQ.cell 2 _ rfl
                  have cQ3 : (u1.alloc (.cells #[.int .i64 A.x0, .int .i64 A.x1, .int .i64 A.y0, .int .i64 A.y1, .int .i64 A.z0, .int .i64 A.z1] 25)).cell? ⟨q, 3, none⟩ = some (.int .i64 f3) := bQ.cell 3 _ rfl
                  have cQ4 : (u1.alloc (.cells #[.int .i64 A.x0, .int .i64 A.x1, .int .i64 A.y0, .int .i64 A.y1, .int .i64 A.z0, .int .i64 A.z1] 25)).cell? ⟨q, 4, none⟩ = some (.int .i64 f4) := bQ.cell 4 _ rfl
                  have cQ5 : (u1.alloc (.cells #[.int .i64 A.x0, .int .i64 A.x1, .int .i64 A.y0, .int .i64 A.y1, .int .i64 A.z0, .int .i64 A.z1] 25)).cell? ⟨q, 5, none⟩ = some (.int .i64 f5) := bQ.cell 5 _ rfl
                  have kQ := bQ.lt
                  go_wp2_with fail
                  refine (m2 _).mono ?_
                  rintro r u2 ⟨rfl, hb⟩
                  replace bP := bP.keep hb
                  replace bQ := bQ.keep hb
                  replace bGx := bGx.keep hb
                  replace bX1 := bX1.keep hb
                  replace bX2 := bX2.keep hb
                  replace bC := bC.keep hb
                  replace bD := bD.keep hb
                  replace bE := bE.keep hb
                  replace hB := hB.trans (hb.mono (by have := hB.size; omega))
                  clear hb cP0 cP1 cP2 cP3 cP4 cP5 kP cQ0 cQ1 cQ2 cQ3 cQ4 cQ5 kQ
                  generalize u1.heap.size = gE at *
                  clear hsz
                  have lP := bP.lt
                  have lQ := bQ.lt
                  have lGx := bGx.lt
                  have lX1 := bX1.lt
                  have lX2 := bX2.lt
                  have lC := bC.lt
                  have lD := bD.lt
                  have lE := bE.lt
                  have hsz : n ≤ u2.heap.size := by have := hB.size; omega
                  have bF := Bn.new u2 #[.int .i64 B.x0, .int .i64 B.x1, .int .i64 B.y0, .int .i64 B.y1, .int .i64 B.z0, .int .i64 B.z1] 25
                  replace bP := bP.alloc (.cells #[.int .i64 B.x0, .int .i64 B.x1, .int .i64 B.y0, .int .i64 B.y1, .int .i64 B.z0, .int .i64 B.z1] 25)
                  replace bQ := bQ.alloc (.cells #[.int .i64 B.x0, .int .i64 B.x1, .int .i64 B.y0, .int .i64 B.y1, .int .i64 B.z0, .int .i64 B.z1] 25)
                  replace bGx := bGx.alloc (.cells #[.int .i64 B.x0, .int .i64 B.x1, .int .i64 B.y0, .int .i64 B.y1, .int .i64 B.z0, .int .i64 B.z1] 25)
                  replace bX1 := bX1.alloc (.cells #[.int .i64 B.x0, .int .i64 B.x1, .int .i64 B.y0, .int .i64 B.y1, .int .i64 B.z0, .int .i64 B.z1] 25)
                  replace bX2 := bX2.alloc (.cells #[.int .i64 B.x0, .int .i64 B.x1, .int .i64 B.y0, .int .i64 B.y1, .int .i64 B.z0, .int .i64 B.z1] 25)
                  replace bC := bC.alloc (.cells #[.int .i64 B.x0, .int .i64 B.x1, .int .i64 B.y0, .int .i64 B.y1, .int .i64 B.z0, .int .i64 B.z1] 25)
                  replace bD := bD.alloc (.cells #[.int .i64 B.x0, .int .i64 B.x1, .int .i64 B.y0, .int .i64 B.y1, .int .i64 B.z0, .int .i64 B.z1] 25)
                  replace bE := bE.alloc (.cells #[.int .i64 B.x0, .int .i64 B.x1, .int .i64 B.y0, .int .i64 B.y1, .int .i64 B.z0, .int .i64 B.z1] 25)
                  replace hB := hB.alloc hsz (.cells #[.int .i64 B.x0, .int .i64 B.x1, .int .i64 B.y0, .int .i64 B.y1, .int .i64 B.z0, .int .i64 B.z1] 25)
                  have cE0 : (u2.alloc (.cells #[.int .i64 B.x0, .int .i64 B.x1, .int .i64 B.y0, .int .i64 B.y1, .int .i64 B.z0, .int .i64 B.z1] 25)).cell? ⟨gE, 0, none⟩ = some (.int .i64 A.x0) := bE.cell 0 _ rfl
                  have cE1 : (u2.alloc (.cells #[.int .i64 B.x0, .int .i64 B.x1, .int .i64 B.y0, .int .i64 B.y1, .int .i64 B.z0, .int .i64 B.z1] 25)).cell? ⟨gE, 1, none⟩ = some (.int .i64 A.x1) := bE.cell 1 _ rfl
                  have cE2 : (u2.alloc (.cells #[.int .i64 B.x0, .int .i64 B.x1, .int .i64 B.y0, .int .i64 B.y1, .int .i64 B.z0, .int .i64 B.z1] 25)).cell? ⟨gE, 2, none⟩ = some (.int .i64 A.y0) := bE.cell 2 _ rfl
                  have cE3 : (u2.alloc (.cells #[.int .i64 B.x0, .int .i64 B.x1, .int .i64 B.y0, .int .i64 B.y1, .int .i64 B.z0, .int .i64 B.z1] 25)).cell? ⟨gE, 3, none⟩ = some (.int .i64 A.y1) := bE.cell 3 _ rfl
                  have cE4 : (u2.alloc (.cells #[.int .i64 B.x0, .int .i64 B.x1, .int .i64 B.y0, .int .i64 B.y1, .int .i64 B.z0, .int .i64 B.z1] 25)).cell? ⟨gE, 4, none⟩ = some (.int .i64 A.z0) := bE.cell 4 _ rfl
                  have cE5 : (u2.alloc (.cells #[.int .i64 B.x0, .int .i64 B.x1, .int .i64 B.y0, .int .i64 B.y1, .int .i64 B.z0, .int .i64 B.z1] 25)).cell? ⟨gE, 5, none⟩ = some (.int .i64 A.z1) := bE.cell 5 _ rfl
                  have kE := bE.lt
                  have cF0 : (u2.alloc (.cells #[.int .i64 B.x0, .int .i64 B.x1, .int .i64 B.y0, .int .i64 B.y1, .int .i64 B.z0, .int .i64 B.z1] 25)).cell? ⟨u2.heap.size, 0, none⟩ = some (.int .i64 B.x0) := bF.cell 0 _ rfl
                  have cF1 : (u2.alloc (.cells #[.int .i64 B.x0, .int .i64 B.x1, .int .i64 B.y0, .int .i64 B.y1, .int .i64 B.z0, .int .i64 B.z1] 25)).cell? ⟨u2.heap.size, 1, none⟩ = some (.int .i64 B.x1) := bF.cell 1 _ rfl
                  have cF2 : (u2.alloc (.cells #[.int .i64 B.x0, .int .i64 B.x1, .int .i64 B.y0, .int .i64 B.y1, .int .i64 B.z0, .int .i64 B.z1] 25)).cell? ⟨u2.heap.size, 2, none⟩ = some (.int .i64 B.y0) := bF.cell 2 _ rfl
                  have cF3 : (u2.alloc (.cells #[.int .i64 B.x0, .int .i64 B.x1, .int .i64 B.y0, .int .i64 B.y1, .int .i64 B.z0, .int .i64 B.z1] 25)).cell? ⟨u2.heap.size, 3, none⟩ = some (.int .i64 B.y1) := bF.cell 3 _ rfl
                  have cF4 : (u2.alloc (.cells #[.int .i64 B.x0, .int .i64 B.x1, .int .i64 B.y0, .int .i64 B.y1, .int .i64 B.z0, .int .i64 B.z1] 25)).cell? ⟨u2.heap.size, 4, none⟩ = some (.int .i64 B.z0) := bF.cell 4 _ rfl
                  have cF5 : (u2.alloc (.cells #[.int .i64 B.x0, .int .i64 B.x1, .int .i64 B.y0, .int .i64 B.y1, .int .i64 B.z0, .int .i64 B.z1] 25)).cell? ⟨u2.heap.size, 5, none⟩ = some (.int .i64 B.z1) := bF.cell 5 _ rfl
                  have kF := bF.lt
                  go_wp2_with fail
                  go_at_call 13
                  refine (hU1 _).mono ?_
                  rintro r u3 ⟨rfl, hb⟩
                  replace bP := bP.keep hb
                  replace bQ := bQ.keep hb
                  replace bGx := bGx.keep hb
                  replace bX1 := bX1.keep hb
                  replace bX2 := bX2.keep hb
                  replace bC := bC.keep hb
                  replace bD := bD.keep hb
                  replace bE := bE.keep hb
                  replace bF := bF.keep hb
                  replace hB := hB.trans (hb.mono (by have := hB.size; omega))
                  clear hb cE0 cE1 cE2 cE3 cE4 cE5 kE cF0 cF1 cF2 cF3 cF4 cF5 kF
                  generalize u2.heap.size = gF at *
                  clear hsz
                  go_wp2_with fail
                  go_roundw
                  case rel => exact ⟨j + 1, by omega, by omega, by go_num, hB, bP, bQ, bGx, bX1, bX2, bC, bD⟩
                  case measure => simp [intOf]; omega
                · clear hidx
                  have cC0 : wr.cell? ⟨c, 0, none⟩ = some (.int .i64 i0) := bC.cell 0 _ rfl
                  have cC1 : wr.cell? ⟨c, 1, none⟩ = some (.int .i64 i1) := bC.cell 1 _ rfl
                  have cC2 : wr.cell? ⟨c, 2, none⟩ = some (.int .i64 i2) := bC.cell 2 _ rfl
                  have cC3 : wr.cell? ⟨c, 3, none⟩ = some (.int .i64 i3) := bC.cell 3 _ rfl
                  have cC4 : wr.cell? ⟨c, 4, none⟩ = some (.int .i64 i4) := bC.cell 4 _ rfl
                  have cC5 : wr.cell? ⟨c, 5, none⟩ = some (.int .i64 i5) := bC.cell 5 _ rfl
                  have kC := bC.lt
                  go_wp2_with fail
                  go_at_call 14
                  refine (h1 _).mono ?_
                  rintro r u4 ⟨rfl, hb⟩
                  replace bP := bP.keep hb
                  replace bQ := bQ.keep hb
                  replace bGx := bGx.keep hb
                  replace bX1 := bX1.keep hb
                  replace bX2 := bX2.keep hb
                  replace bC := bC.keep hb
                  replace bD := bD.keep hb
                  replace hB := hB.trans (hb.mono (by have := hB.size; omega))
                  clear hb cC0 cC1 cC2 cC3 cC4 cC5 kC
                  have lP := bP.lt
                  have lQ := bQ.lt
                  have lGx := bGx.lt
                  have lX1 := bX1.lt
                  have lX2 := bX2.lt
                  have lC := bC.lt
                  have lD := bD.lt
                  have hsz : n ≤ u4.heap.size := by have := hB.size; omega
                  have bU := Bn.new u4 #[.int .i64 U.x0, .int .i64 U.x1, .int .i64 U.y0, .int .i64 U.y1, .int .i64 U.z0, .int .i64 U.z1] 25
                  replace bP := bP.alloc (.cells #[.int .i64 U.x0, .int .i64 U.x1, .int .i64 U.y0, .int .i64 U.y1, .int .i64 U.z0, .int .i64 U.z1] 25)
                  replace bQ := bQ.alloc (.cells #[.int .i64 U.x0, .int .i64 U.x1, .int .i64 U.y0, .int .i64 U.y1, .int .i64 U.z0, .int .i64 U.z1] 25)
                  replace bGx := bGx.alloc (.cells #[.int .i64 U.x0, .int .i64 U.x1, .int .i64 U.y0, .int .i64 U.y1, .int .i64 U.z0, .int .i64 U.z1] 25)
                  replace bX1 := bX1.alloc (.cells #[.int .i64 U.x0, .int .i64 U.x1, .int .i64 U.y0, .int .i64 U.y1, .int .i64 U.z0, .int .i64 U.z1] 25)
                  replace bX2 := bX2.alloc (.cells #[.int .i64 U.x0, .int .i64 U.x1, .int .i64 U.y0, .int .i64 U.y1, .int .i64 U.z0, .int .i64 U.z1] 25)
                  replace bC := bC.alloc (.cells #[.int .i64 U.x0, .int .i64 U.x1, .int .i64 U.y0, .int .i64 U.y1, .int .i64 U.z0, .int .i64 U.z1] 25)
                  replace bD := bD.alloc (.cells #[.int .i64 U.x0, .int .i64 U.x1, .int .i64 U.y0, .int .i64 U.y1, .int .i64 U.z0, .int .i64 U.z1] 25)
                  replace hB := hB.alloc hsz (.cells #[.int .i64 U.x0, .int .i64 U.x1, .int .i64 U.y0, .int .i64 U.y1, .int .i64 U.z0, .int .i64 U.z1] 25)
                  have cP0 : (u4.alloc (.cells #[.int .i64 U.x0, .int .i64 U.x1, .int .i64 U.y0, .int .i64 U.y1, .int .i64 U.z0, .int .i64 U.z1] 25)).cell? ⟨p, 0, none⟩ = some (.int .i64 e0) := bP.cell 0 _ rfl
                  have cP1 : (u4.alloc (.cells #[.int .i64 U.x0, .int .i64 U.x1, .int .i64 U.y0, .int .i64 U.y1, .int .i64 U.z0, .int .i64 U.z1] 25)).cell? ⟨p, 1, none⟩ = some (.int .i64 e1) := bP.cell 1 _ rfl
                  have cP2 : (u4.alloc (.cells #[.int .i64 U.x0, .int .i64 U.x1, .int .i64 U.y0, .int .i64 U.y1, .int .i64 U.z0, .int .i64 U.z1] 25)).cell? ⟨p, 2, none⟩ = some (.int .i64 e2) := bP.cell 2 _ rfl
                  have cP3 : (u4.alloc (.cells #[.int .i64 U.x0, .int .i64 U.x1, .int .i64 U.y0, .int .i64 U.y1, .int .i64 U.z0, .int .i64 U.z1] 25)).cell? ⟨p, 3, none⟩ = some (.int .i64 e3) := bP.cell 3 _ rfl
                  have cP4 : (u4.alloc (.cells #[.int .i64 U.x0, .int .i64 U.x1, .int .i64 U.y0, .int .i64 U.y1, .int .i64 U.z0, .int .i64 U.z1] 25)).cell? ⟨p, 4, none⟩ = some (.int .i64 e4) := bP.cell 4 _ rfl
                  have cP5 : (u4.alloc (.cells #[.int .i64 U.x0, .int .i64 U.x1, .int .i64 U.y0, .int .i64 U.y1, .int .i64 U.z0, .int .i64 U.z1] 25)).cell? ⟨p, 5, none⟩ = some (.int .i64 e5) := bP.cell 5 _ rfl
                  have kP := bP.lt
                  go_wp2_with fail
                  go_at_call 14
                  refine (h2 _).mono ?_
                  rintro r u5 ⟨rfl, hb⟩
                  replace bP := bP.keep hb
                  replace bQ := bQ.keep hb
                  replace bGx := bGx.keep hb
                  replace bX1 := bX1.keep hb
                  replace bX2 := bX2.keep hb
                  replace bC := bC.keep hb
                  replace bD := bD.keep hb
                  replace bU := bU.keep hb
                  replace hB := hB.trans (hb.mono (by have := hB.size; omega))
                  clear hb cP0 cP1 cP2 cP3 cP4 cP5 kP
                  generalize u4.heap.size = gU at *
                  clear hsz
                  have lP := bP.lt
                  have lQ := bQ.lt
                  have lGx := bGx.lt
                  have lX1 := bX1.lt
                  have lX2 := bX2.lt
                  have lC := bC.lt
                  have lD := bD.lt
                  have lU := bU.lt
                  have hsz : n ≤ u5.heap.size := by have := hB.size; omega
                  have bV := Bn.new u5 #[.int .i64 V.x0, .int .i64 V.x1, .int .i64 V.y0, .int .i64 V.y1, .int .i64 V.z0, .int .i64 V.z1] 25
                  replace bP := bP.alloc (.cells #[.int .i64 V.x0, .int .i64 V.x1, .int .i64 V.y0, .int .i64 V.y1, .int .i64 V.z0, .int .i64 V.z1] 25)
                  replace bQ := bQ.alloc (.cells #[.int .i64 V.x0, .int .i64 V.x1, .int .i64 V.y0, .int .i64 V.y1, .int .i64 V.z0, .int .i64 V.z1] 25)
                  replace bGx := bGx.alloc (.cells #[.int .i64 V.x0, .int .i64 V.x1, .int .i64 V.y0, .int .i64 V.y1, .int .i64 V.z0, .int .i64 V.z1] 25)
                  replace bX1 := bX1.alloc (.cells #[.int .i64 V.x0, .int .i64 V.x1, .int .i64 V.y0, .int .i64 V.y1, .int .i64 V.z0, .int .i64 V.z1] 25)
                  replace bX2 := bX2.alloc (.cells #[.int .i64 V.x0, .int .i64 V.x1, .int .i64 V.y0, .int .i64 V.y1, .int .i64 V.z0, .int .i64 V.z1] 25)
                  replace bC := bC.alloc (.cells #[.int .i64 V.x0, .int .i64 V.x1, .int .i64 V.y0, .int .i64 V.y1, .int .i64 V.z0, .int .i64 V.z1] 25)
                  replace bD := bD.alloc (.cells #[.int .i64 V.x0, .int .i64 V.x1, .int .i64 V.y0, .int .i64 V.y1, .int .i64 V.z0, .int .i64 V.z1] 25)
                  replace bU := bU.alloc (.cells #[.int .i64 V.x0, .int .i64 V.x1, .int .i64 V.y0, .int .i64 V.y1, .int .i64 V.z0, .int .i64 V.z1] 25)
                  replace hB := hB.alloc hsz (.cells #[.int .i64 V.x0, .int .i64 V.x1, .int .i64 V.y0, .int .i64 V.y1, .int .i64 V.z0, .int .i64 V.z1] 25)
                  have cU0 : (u5.alloc (.cells #[.int .i64 V.x0, .int .i64 V.x1, .int .i64 V.y0, .int .i64 V.y1, .int .i64 V.z0, .int .i64 V.z1] 25)).cell? ⟨gU, 0, none⟩ = some (.int .i64 U.x0) := bU.cell 0 _ rfl
                  have cU1 : (u5.alloc (.cells #[.int .i64 V.x0, .int .i64 V.x1, .int .i64 V.y0, .int .i64 V.y1, .int .i64 V.z0, .int .i64 V.z1] 25)).cell? ⟨gU, 1, none⟩ = some (.int .i64 U.x1) := bU.cell 1 _ rfl
                  have cU2 : (u5.alloc (.cells #[.int .i64 V.x0, .int .i64 V.x1, .int .i64 V.y0, .int .i64 V.y1, .int .i64 V.z0, .int .i64 V.z1] 25)).cell? ⟨gU, 2, none⟩ = some (.int .i64 U.y0) := bU.cell 2 _ rfl
                  have cU3 : (u5.alloc (.cells #[.int .i64 V.x0, .int .i64 V.x1, .int .i64 V.y0, .int .i64 V.y1, .int .i64 V.z0, .int .i64 V.z1] 25)).cell? ⟨gU, 3, none⟩ = some (.int .i64 U.y1) := bU.cell 3 _ rfl
                  have cU4 : (u5.alloc (.cells #[.int .i64 V.x0, .int .i64 V.x1, .int .i64 V.y0, .int .i64 V.y1, .int .i64 V.z0, .int .i64 V.z1] 25)).cell? ⟨gU, 4, none⟩ = some (.int .i64 U.z0) := bU.cell 4 _ rfl
                  have cU5 : (u5.alloc (.cells #[.int .i64 V.x0, .int .i64 V.x1, .int .i64 V.y0, .int .i64 V.y1, .int .i64 V.z0, .int .i64 V.z1] 25)).cell? ⟨gU, 5, none⟩ = some (.int .i64 U.z1) := bU.cell 5 _ rfl
                  have kU := bU.lt
                  have cV0 : (u5.alloc (.cells #[.int .i64 V.x0, .int .i64 V.x1, .int .i64 V.y0, .int .i64 V.y1, .int .i64 V.z0, .int .i64 V.z1] 25)).cell? ⟨u5.heap.size, 0, none⟩ = some (.int .i64 V.x0) := bV.cell 0 _ rfl
                  have cV1 : (u5.alloc (.cells #[.int .i64 V.x0, .int .i64 V.x1, .int .i64 V.y0, .int .i64 V.y1, .int .i64 V.z0, .int .i64 V.z1] 25)).cell? ⟨u5.heap.size, 1, none⟩ = some (.int .i64 V.x1) := bV.cell 1 _ rfl
                  have cV2 : (u5.alloc (.cells #[.int .i64 V.x0, .int .i64 V.x1, .int .i64 V.y0, .int .i64 V.y1, .int .i64 V.z0, .int .i64 V.z1] 25)).cell? ⟨u5.heap.size, 2, none⟩ = some (.int .i64 V.y0) := bV.cell 2 _ rfl
                  have cV3 : (u5.alloc (.cells #[.int .i64 V.x0, .int .i64 V.x1, .int .i64 V.y0, .int .i64 V.y1, .int .i64 V.z0, .int .i64 V.z1] 25)).cell? ⟨u5.heap.size, 3, none⟩ = some (.int .i64 V.y1) := bV.cell 3 _ rfl
                  have cV4 : (u5.alloc (.cells #[.int .i64 V.x0, .int .i64 V.x1, .int .i64 V.y0, .int .i64 V.y1, .int .i64 V.z0, .int .i64 V.z1] 25)).cell? ⟨u5.heap.size, 4, none⟩ = some (.int .i64 V.z0) := bV.cell 4 _ rfl
                  have cV5 : (u5.alloc (.cells #[.int .i64 V.x0, .int .i64 V.x1, .int .i64 V.y0, .int .i64 V.y1, .int .i64 V.z0, .int .i64 V.z1] 25)).cell? ⟨u5.heap.size, 5, none⟩ = some (.int .i64 V.z1) := bV.cell 5 _ rfl
                  have kV := bV.lt
                  go_wp2_with fail
                  go_at_call 13
                  refine (hU _).mono ?_
                  rintro r u6 ⟨rfl, hb⟩
                  replace bP := bP.keep hb
                  replace bQ := bQ.keep hb
                  replace bGx := bGx.keep hb
                  replace bX1 := bX1.keep hb
                  replace bX2 := bX2.keep hb
                  replace bC := bC.keep hb
                  replace bD := bD.keep hb
                  replace bU := bU.keep hb
                  replace bV := bV.keep hb
                  replace hB := hB.trans (hb.mono (by have := hB.size; omega))
                  clear hb cU0 cU1 cU2 cU3 cU4 cU5 kU cV0 cV1 cV2 cV3 cV4 cV5 kV
                  generalize u5.heap.size = gV at *
                  clear hsz
                  clear bU bV
                  have cC0 : u6.cell? ⟨c, 0, none⟩ = some (.int .i64 i0) := bC.cell 0 _ rfl
                  have cC1 : u6.cell? ⟨c, 1, none⟩ = some (.int .i64 i1) := bC.cell 1 _ rfl
                  have cC2 : u6.cell? ⟨c, 2, none⟩ = some (.int .i64 i2) := bC.cell 2 _ rfl
                  have cC3 : u6.cell? ⟨c, 3, none⟩ = some (.int .i64 i3) := bC.cell 3 _ rfl
                  have cC4 : u6.cell? ⟨c, 4, none⟩ = some (.int .i64 i4) := bC.cell 4 _ rfl
                  have cC5 : u6.cell? ⟨c, 5, none⟩ = some (.int .i64 i5) := bC.cell 5 _ rfl
                  have kC := bC.lt
                  have cD0 : u6.cell? ⟨d, 0, none⟩ = some (.int .i64 j0) := bD.cell 0 _ rfl
                  have cD1 : u6.cell? ⟨d, 1, none⟩ = some (.int .i64 j1) := bD.cell 1 _ rfl
                  have cD2 : u6.cell? ⟨d, 2, none⟩ = some (.int .i64 j2) := bD.cell 2 _ rfl
                  have cD3 : u6.cell? ⟨d, 3, none⟩ = some (.int .i64 j3) := bD.cell 3 _ rfl
                  have cD4 : u6.cell? ⟨d, 4, none⟩ = some (.int .i64 j4) := bD.cell 4 _ rfl
                  have cD5 : u6.cell? ⟨d, 5, none⟩ = some (.int .i64 j5) := bD.cell 5 _ rfl
                  have kD := bD.lt
                  go_wp2_with fail
                  go_at_call 15
                  refine (h3 _).mono ?_
                  rintro r u7 ⟨rfl, hb⟩
                  replace bP := bP.keep hb
                  replace bQ := bQ.keep hb
                  replace bGx := bGx.keep hb
                  replace bX1 := bX1.keep hb
                  replace bX2 := bX2.keep hb
                  replace bC := bC.keep hb
                  replace bD := bD.keep hb
                  replace hB := hB.trans (hb.mono (by have := hB.size; omega))
                  clear hb cC0 cC1 cC2 cC3 cC4 cC5 kC cD0 cD1 cD2 cD3 cD4 cD5 kD
                  have lP := bP.lt
                  have lQ := bQ.lt
                  have lGx := bGx.lt
                  have lX1 := bX1.lt
                  have lX2 := bX2.lt
                  have lC := bC.lt
                  have lD := bD.lt
                  have hsz : n ≤ u7.heap.size := by have := hB.size; omega
                  have bM := Bn.new u7 #[.int .i64 R.1, .int .i64 R.2.1] 23
                  replace bP := bP.alloc (.cells #[.int .i64 R.1, .int .i64 R.2.1] 23)
                  replace bQ := bQ.alloc (.cells #[.int .i64 R.1, .int .i64 R.2.1] 23)
                  replace bGx := bGx.alloc (.cells #[.int .i64 R.1, .int .i64 R.2.1] 23)
                  replace bX1 := bX1.alloc (.cells #[.int .i64 R.1, .int .i64 R.2.1] 23)
                  replace bX2 := bX2.alloc (.cells #[.int .i64 R.1, .int .i64 R.2.1] 23)
                  replace bC := bC.alloc (.cells #[.int .i64 R.1, .int .i64 R.2.1] 23)
                  replace bD := bD.alloc (.cells #[.int .i64 R.1, .int .i64 R.2.1] 23)
                  replace hB := hB.alloc hsz (.cells #[.int .i64 R.1, .int .i64 R.2.1] 23)
                  have cP0 : (u7.alloc (.cells #[.int .i64 R.1, .int .i64 R.2.1] 23)).cell? ⟨p, 0, none⟩ = some (.int .i64 e0) := bP.cell 0 _ rfl
                  have cP1 : (u7.alloc (.cells #[.int .i64 R.1, .int .i64 R.2.1] 23)).cell? ⟨p, 1, none⟩ = some (.int .i64 e1) := bP.cell 1 _ rfl
                  have cP2 : (u7.alloc (.cells #[.int .i64 R.1, .int .i64 R.2.1] 23)).cell? ⟨p, 2, none⟩ = some (.int .i64 e2) := bP.cell 2 _ rfl
                  have cP3 : (u7.alloc (.cells #[.int .i64 R.1, .int .i64 R.2.1] 23)).cell? ⟨p, 3, none⟩ = some (.int .i64 e3) := bP.cell 3 _ rfl
                  have cP4 : (u7.alloc (.cells #[.int .i64 R.1, .int .i64 R.2.1] 23)).cell? ⟨p, 4, none⟩ = some (.int .i64 e4) := bP.cell 4 _ rfl
                  have cP5 : (u7.alloc (.cells #[.int .i64 R.1, .int .i64 R.2.1] 23)).cell? ⟨p, 5, none⟩ = some (.int .i64 e5) := bP.cell 5 _ rfl
                  have kP := bP.lt
                  have cQ0 : (u7.alloc (.cells #[.int .i64 R.1, .int .i64 R.2.1] 23)).cell? ⟨q, 0, none⟩ = some (.int .i64 f0) := bQ.cell 0 _ rfl
                  have cQ1 : (u7.alloc (.cells #[.int .i64 R.1, .int .i64 R.2.1] 23)).cell? ⟨q, 1, none⟩ = some (.int .i64 f1) := bQ.cell 1 _ rfl
                  have cQ2 : (u7.alloc (.cells #[.int .i64 R.1, .int .i64 R.2.1] 23)).cell? ⟨q, 2, none⟩ = some (.int .i64 f2) := bQ.cell 2 _ rfl
                  have cQ3 : (u7.alloc (.cells #[.int .i64 R.1, .int .i64 R.2.1] 23)).cell? ⟨q, 3, none⟩ = some (.int .i64 f3) := bQ.cell 3 _ rfl
                  have cQ4 : (u7.alloc (.cells #[.int .i64 R.1, .int .i64 R.2.1] 23)).cell? ⟨q, 4, none⟩ = some (.int .i64 f4) := bQ.cell 4 _ rfl
                  have cQ5 : (u7.alloc (.cells #[.int .i64 R.1, .int .i64 R.2.1] 23)).cell? ⟨q, 5, none⟩ = some (.int .i64 f5) := bQ.cell 5 _ rfl
                  have kQ := bQ.lt
                  go_wp2_with fail
                  go_at_call 15
                  refine (h4 _).mono ?_
                  rintro r u8 ⟨rfl, hb⟩
                  replace bP := bP.keep hb
                  replace bQ := bQ.keep hb
                  replace bGx := bGx.keep hb
                  replace bX1 := bX1.keep hb
                  replace bX2 := bX2.keep hb
                  replace bC := bC.keep hb
                  replace bD := bD.keep hb
                  replace bM := bM.keep hb
                  replace hB := hB.trans (hb.mono (by have := hB.size; omega))
                  clear hb cP0 cP1 cP2 cP3 cP4 cP5 kP cQ0 cQ1 cQ2 cQ3 cQ4 cQ5 kQ
                  generalize u7.heap.size = gM at *
                  clear hsz
                  have lP := bP.lt
                  have lQ := bQ.lt
                  have lGx := bGx.lt
                  have lX1 := bX1.lt
                  have lX2 := bX2.lt
                  have lC := bC.lt
                  have lD := bD.lt
                  have lM := bM.lt
                  have hsz : n ≤ u8.heap.size := by have := hB.size; omega
                  have bN := Bn.new u8 #[.int .i64 S.1, .int .i64 S.2.1] 23
                  replace bP := bP.alloc (.cells #[.int .i64 S.1, .int .i64 S.2.1] 23)
                  replace bQ := bQ.alloc (.cells #[.int .i64 S.1, .int .i64 S.2.1] 23)
                  replace bGx := bGx.alloc (.cells #[.int .i64 S.1, .int .i64 S.2.1] 23)
                  replace bX1 := bX1.alloc (.cells #[.int .i64 S.1, .int .i64 S.2.1] 23)
                  replace bX2 := bX2.alloc (.cells #[.int .i64 S.1, .int .i64 S.2.1] 23)
                  replace bC := bC.alloc (.cells #[.int .i64 S.1, .int .i64 S.2.1] 23)
                  replace bD := bD.alloc (.cells #[.int .i64 S.1, .int .i64 S.2.1] 23)
                  replace bM := bM.alloc (.cells #[.int .i64 S.1, .int .i64 S.2.1] 23)
                  replace hB := hB.alloc hsz (.cells #[.int .i64 S.1, .int .i64 S.2.1] 23)
                  go_upto_region 22 with fail
                  generalize (u8.alloc (.cells #[.int .i64 S.1, .int .i64 S.2.1] 23)) = v2 at *
                  generalize u8.heap.size = gN at *
                  clear hsz
                  have npw : n ≤ v2.heap.size := by have := hB.size; omega
                  go_cut [20, 22, 109] from 35 to 133 (fun v20 v22 vt wx => vt = .bool false ∧ Below n w wx ∧ Bn wx p #[.int .i64 e0, .int .i64 e1, .int .i64 e2, .int .i64 e3, .int .i64 e4, .int .i64 e5] 25 ∧ Bn wx q #[.int .i64 f0, .int .i64 f1, .int .i64 f2, .int .i64 f3, .int .i64 f4, .int .i64 f5] 25 ∧ Bn wx g cs 40 ∧ Bn wx (n + 1) #[.int .u64 m0, .int .u64 m1, .int .u64 m2, .int .u64 m3, .int .u64 m4, .int .u64 m5] 36 ∧ Bn wx (n + 2) #[.int .u64 l0, .int .u64 l1, .int .u64 l2, .int .u64 l3, .int .u64 l4, .int .u64 l5] 36 ∧ Bn wx c #[.int .i64 i0, .int .i64 i1, .int .i64 i2, .int .i64 i3, .int .i64 i4, .int .i64 i5] 25 ∧ Bn wx d #[.int .i64 j0, .int .i64 j1, .int .i64 j2, .int .i64 j3, .int .i64 j4, .int .i64 j5] 25 ∧ Bn wx gM #[.int .i64 R.1, .int .i64 R.2.1] 23 ∧ Bn wx gN #[.int .i64 S.1, .int .i64 S.2.1] 23)
                  case first =>
                    by_cases x0 : S.2.2 = 0
                    · obtain ⟨y0, y1, y2⟩ := nv_within N2.out x0
                      have hw := fun w => within_true R.1 R.2.1 S.1 S.2.1 w y1 y2
                      rw [x0, y0]
                      clear x0 y0 y1 y2
                      have cM0 : v2.cell? ⟨gM, 0, none⟩ = some (.int .i64 R.1) := bM.cell 0 _ rfl
                      have cM1 : v2.cell? ⟨gM, 1, none⟩ = some (.int .i64 R.2.1) := bM.cell 1 _ rfl
                      have kM := bM.lt
                      have cN0 : v2.cell? ⟨gN, 0, none⟩ = some (.int .i64 S.1) := bN.cell 0 _ rfl
                      have cN1 : v2.cell? ⟨gN, 1, none⟩ = some (.int .i64 S.2.1) := bN.cell 1 _ rfl
                      have kN := bN.lt
                      go_wp2_with fail
                      go_at_call 16
                      refine (hw _).mono ?_
                      rintro r u9 ⟨rfl, hb⟩
                      replace bP := bP.keep hb
                      replace bQ := bQ.keep hb
                      replace bGx := bGx.keep hb
                      replace bX1 := bX1.keep hb
                      replace bX2 := bX2.keep hb
                      replace bC := bC.keep hb
                      replace bD := bD.keep hb
                      replace bM := bM.keep hb
                      replace bN := bN.keep hb
                      replace hB := hB.trans (hb.mono (by have := hB.size; omega))
                      clear hb cM0 cM1 kM cN0 cN1 kN
                      go_wp2_with fail
                      go_meet
                      exact ⟨rfl, hB, bP, bQ, bGx, bX1, bX2, bC, bD, bM, bN⟩
                    · have y0 : (S.2.2 == 0) = false := beq_eq_false_iff_ne.2 x0
                      go_wp2_with fail
                      go_meet
                      exact ⟨rfl, hB, bP, bQ, bGx, bX1, bX2, bC, bD, bM, bN⟩
                  case rest =>
                    as_aux_lemma =>
                      clear hB bP bQ bGx bX1 bX2 bC bD bM bN
                      obtain ⟨rfl, hB, bP, bQ, bGx, bX1, bX2, bC, bD, bM, bN⟩ := hcut
                      have cC0 : wc.cell? ⟨c, 0, none⟩ = some (.int .i64 i0) := bC.cell 0 _ rfl
                      have cC1 : wc.cell? ⟨c, 1, none⟩ = some (.int .i64 i1) := bC.cell 1 _ rfl
                      have cC2 : wc.cell? ⟨c, 2, none⟩ = some (.int .i64 i2) := bC.cell 2 _ rfl
                      have cC3 : wc.cell? ⟨c, 3, none⟩ = some (.int .i64 i3) := bC.cell 3 _ rfl
                      have cC4 : wc.cell? ⟨c, 4, none⟩ = some (.int .i64 i4) := bC.cell 4 _ rfl
                      have cC5 : wc.cell? ⟨c, 5, none⟩ = some (.int .i64 i5) := bC.cell 5 _ rfl
                      have kC := bC.lt
                      go_wp2_with fail
                      go_at_call 17
                      refine (h5 _).mono ?_
                      rintro r u10 ⟨rfl, hb⟩
                      replace bP := bP.keep hb
                      replace bQ := bQ.keep hb
                      replace bGx := bGx.keep hb
                      replace bX1 := bX1.keep hb
                      replace bX2 := bX2.keep hb
                      replace bC := bC.keep hb
                      replace bD := bD.keep hb
                      replace bM := bM.keep hb
                      replace bN := bN.keep hb
                      replace hB := hB.trans (hb.mono (by have := hB.size; omega))
                      clear hb cC0 cC1 cC2 cC3 cC4 cC5 kC
                      have zM0 : u10.frozen? ⟨gM, 0, none⟩ = false := bM.f 0
                      have zM1 : u10.frozen? ⟨gM, 1, none⟩ = false := bM.f 1
                      have kzM := bM.lt
                      have rwM0 : u10.cell? ⟨gM, 0, none⟩ = some (.int .i64 R.1) := bM.cell 0 _ rfl
                      have rwM1 : u10.cell? ⟨gM, 1, none⟩ = some (.int .i64 R.2.1) := bM.cell 1 _ rfl
                      replace bP := bP.far2 (g := gM) (by omega) (.int .i64 T.1) (.int .i64 T.2.1)
                      replace bQ := bQ.far2 (g := gM) (by omega) (.int .i64 T.1) (.int .i64 T.2.1)
                      replace bGx := bGx.far2 (g := gM) (by omega) (.int .i64 T.1) (.int .i64 T.2.1)
                      replace bX1 := bX1.far2 (g := gM) (by omega) (.int .i64 T.1) (.int .i64 T.2.1)
                      replace bX2 := bX2.far2 (g := gM) (by omega) (.int .i64 T.1) (.int .i64 T.2.1)
                      replace bC := bC.far2 (g := gM) (by omega) (.int .i64 T.1) (.int .i64 T.2.1)
                      replace bD := bD.far2 (g := gM) (by omega) (.int .i64 T.1) (.int .i64 T.2.1)
                      replace bM := bM.set2 (.int .i64 T.1) (.int .i64 T.2.1)
                      replace bN := bN.far2 (g := gM) (by omega) (.int .i64 T.1) (.int .i64 T.2.1)
                      replace hB := below2 hB (g := gM) (by omega) (.int .i64 T.1) (.int .i64 T.2.1)
                      have cP0 : ((u10.setCell ⟨gM, 0, none⟩ (.int .i64 T.1)).setCell ⟨gM, 1, none⟩ (.int .i64 T.2.1)).cell? ⟨p, 0, none⟩ = some (.int .i64 e0) := bP.cell 0 _ rfl
                      have cP1 : ((u10.setCell ⟨gM, 0, none⟩ (.int .i64 T.1)).setCell ⟨gM, 1, none⟩ (.int .i64 T.2.1)).cell? ⟨p, 1, none⟩ = some (.int .i64 e1) := bP.cell 1 _ rfl
                      have cP2 : ((u10.setCell ⟨gM, 0, none⟩ (.int .i64 T.1)).setCell ⟨gM, 1, none⟩ (.int .i64 T.2.1)).cell? ⟨p, 2, none⟩ = some (.int .i64 e2) := bP.cell 2 _ rfl
                      have cP3 : ((u10.setCell ⟨gM, 0, none⟩ (.int .i64 T.1)).setCell ⟨gM, 1, none⟩ (.int .i64 T.2.1)).cell? ⟨p, 3, none⟩ = some (.int .i64 e3) := bP.cell 3 _ rfl
                      have cP4 : ((u10.setCell ⟨gM, 0, none⟩ (.int .i64 T.1)).setCell ⟨gM, 1, none⟩ (.int .i64 T.2.1)).cell? ⟨p, 4, none⟩ = some (.int .i64 e4) := bP.cell 4 _ rfl
                      have cP5 : ((u10.setCell ⟨gM, 0, none⟩ (.int .i64 T.1)).setCell ⟨gM, 1, none⟩ (.int .i64 T.2.1)).cell? ⟨p, 5, none⟩ = some (.int .i64 e5) := bP.cell 5 _ rfl
                      have kP := bP.lt
                      go_wp2_with fail
                      go_at_call 17
                      refine (h6 _).mono ?_
                      rintro r u11 ⟨rfl, hb⟩
                      clear zM0 rwM0 zM1 rwM1 kzM
                      replace bP := bP.keep hb
                      replace bQ := bQ.keep hb
                      replace bGx := bGx.keep hb
                      replace bX1 := bX1.keep hb
                      replace bX2 := bX2.keep hb
                      replace bC := bC.keep hb
                      replace bD := bD.keep hb
                      replace bM := bM.keep hb
                      replace bN := bN.keep hb
                      replace hB := hB.trans (hb.mono (by have := hB.size; omega))
                      clear hb cP0 cP1 cP2 cP3 cP4 cP5 kP
                      have zN0 : u11.frozen? ⟨gN, 0, none⟩ = false := bN.f 0
                      have zN1 : u11.frozen? ⟨gN, 1, none⟩ = false := bN.f 1
                      have kzN := bN.lt
                      have rwN0 : u11.cell? ⟨gN, 0, none⟩ = some (.int .i64 S.1) := bN.cell 0 _ rfl
                      have rwN1 : u11.cell? ⟨gN, 1, none⟩ = some (.int .i64 S.2.1) := bN.cell 1 _ rfl
                      replace bP := bP.far2 (g := gN) (by omega) (.int .i64 O.1) (.int .i64 O.2.1)
                      replace bQ := bQ.far2 (g := gN) (by omega) (.int .i64 O.1) (.int .i64 O.2.1)
                      replace bGx := bGx.far2 (g := gN) (by omega) (.int .i64 O.1) (.int .i64 O.2.1)
                      replace bX1 := bX1.far2 (g := gN) (by omega) (.int .i64 O.1) (.int .i64 O.2.1)
                      replace bX2 := bX2.far2 (g := gN) (by omega) (.int .i64 O.1) (.int .i64 O.2.1)
                      replace bC := bC.far2 (g := gN) (by omega) (.int .i64 O.1) (.int .i64 O.2.1)
                      replace bD := bD.far2 (g := gN) (by omega) (.int .i64 O.1) (.int .i64 O.2.1)
                      replace bM := bM.far2 (g := gN) (by omega) (.int .i64 O.1) (.int .i64 O.2.1)
                      replace bN := bN.set2 (.int .i64 O.1) (.int .i64 O.2.1)
                      replace hB := below2 hB (g := gN) (by omega) (.int .i64 O.1) (.int .i64 O.2.1)
                      go_upto_region 26 with fail
                      generalize ((u11.setCell ⟨gN, 0, none⟩ (.int .i64 O.1)).setCell ⟨gN, 1, none⟩ (.int .i64 O.2.1)) = v3 at *
                      have npw : n ≤ v3.heap.size := by have := hB.size; omega
                      go_cut [20, 22, 131] from 35 to 133 (fun v20 v22 vt wx => vt = .bool false ∧ Below n w wx ∧ Bn wx p #[.int .i64 e0, .int .i64 e1, .int .i64 e2, .int .i64 e3, .int .i64 e4, .int .i64 e5] 25 ∧ Bn wx q #[.int .i64 f0, .int .i64 f1, .int .i64 f2, .int .i64 f3, .int .i64 f4, .int .i64 f5] 25 ∧ Bn wx g cs 40 ∧ Bn wx (n + 1) #[.int .u64 m0, .int .u64 m1, .int .u64 m2, .int .u64 m3, .int .u64 m4, .int .u64 m5] 36 ∧ Bn wx (n + 2) #[.int .u64 l0, .int .u64 l1, .int .u64 l2, .int .u64 l3, .int .u64 l4, .int .u64 l5] 36 ∧ Bn wx c #[.int .i64 i0, .int .i64 i1, .int .i64 i2, .int .i64 i3, .int .i64 i4, .int .i64 i5] 25 ∧ Bn wx d #[.int .i64 j0, .int .i64 j1, .int .i64 j2, .int .i64 j3, .int .i64 j4, .int .i64 j5] 25 ∧ Bn wx gM #[.int .i64 T.1, .int .i64 T.2.1] 23 ∧ Bn wx gN #[.int .i64 O.1, .int .i64 O.2.1] 23)
                      case first =>
                        by_cases x0 : O.2.2 = 0
                        · obtain ⟨y0, y1, y2⟩ := nv_within N3.out x0
                          have hw := fun w => within_true T.1 T.2.1 O.1 O.2.1 w y1 y2
                          rw [x0, y0]
                          clear x0 y0 y1 y2
                          have cM0 : v3.cell? ⟨gM, 0, none⟩ = some (.int .i64 T.1) := bM.cell 0 _ rfl
                          have cM1 : v3.cell? ⟨gM, 1, none⟩ = some (.int .i64 T.2.1) := bM.cell 1 _ rfl
                          have kM := bM.lt
                          have cN0 : v3.cell? ⟨gN, 0, none⟩ = some (.int .i64 O.1) := bN.cell 0 _ rfl
                          have cN1 : v3.cell? ⟨gN, 1, none⟩ = some (.int .i64 O.2.1) := bN.cell 1 _ rfl
                          have kN := bN.lt
                          go_wp2_with fail
                          go_at_call 16
                          refine (hw _).mono ?_
                          rintro r u12 ⟨rfl, hb⟩
                          replace bP := bP.keep hb
                          replace bQ := bQ.keep hb
                          replace bGx := bGx.keep hb
                          replace bX1 := bX1.keep hb
                          replace bX2 := bX2.keep hb
                          replace bC := bC.keep hb
                          replace bD := bD.keep hb
                          replace bM := bM.keep hb
                          replace bN := bN.keep hb
                          replace hB := hB.trans (hb.mono (by have := hB.size; omega))
                          clear hb cM0 cM1 kM cN0 cN1 kN
                          go_wp2_with fail
                          go_meet
                          exact ⟨rfl, hB, bP, bQ, bGx, bX1, bX2, bC, bD, bM, bN⟩
                        · have y0 : (O.2.2 == 0) = false := beq_eq_false_iff_ne.2 x0
                          go_wp2_with fail
                          go_meet
                          exact ⟨rfl, hB, bP, bQ, bGx, bX1, bX2, bC, bD, bM, bN⟩
                      case rest =>
                        as_aux_lemma =>
                          clear hB bP bQ bGx bX1 bX2 bC bD bM bN
                          obtain ⟨rfl, hB, bP, bQ, bGx, bX1, bX2, bC, bD, bM, bN⟩ := hcut
                          go_wp2_with fail
                          go_roundw
                          case rel => exact ⟨k + 1, by omega, by omega, by go_num, hB, bGx, bX1, bX2⟩
                          case measure => simp [intOf]; omega
    · go_wp2
      go_ret
      subst hn
      exact ⟨rfl, hB⟩
end Go.Proofs.Ytnfapdmbkpkkdaa
