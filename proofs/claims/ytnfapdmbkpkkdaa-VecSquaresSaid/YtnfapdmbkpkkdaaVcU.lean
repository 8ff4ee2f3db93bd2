/-
  VecSquares: the walk.
-/
import Derived.Test.YtnfapdmbkpkkdaaVcL
import Derived.Test.YtnfapdmbkpkkdaaVcS
import Derived.Deep.RegionHeld3
namespace Go.Proofs.Ytnfapdmbkpkkdaa
open Go.RowKit

theorem norm_bd (a0 a1 a2 a3 a4 a5 : Int) : -4503599627370496 ≤ (vNormP a0 a1 a2 a3 a4 a5).2.1 ∧ (vNormP a0 a1 a2 a3 a4 a5).2.1 ≤ 4503599627370496 := by
  by_cases e : (vNormP a0 a1 a2 a3 a4 a5).2.2 = 0
  · obtain ⟨_, _, _, _, e4, h, _⟩ := norm_parts e
    rw [h]
    generalize (sSqrR a0 a1).1 + (sSqrR a2 a3).1 + (sSqrR a4 a5).1 = A at *
    generalize (sSqrR a0 a1).2.1 + (sSqrR a2 a3).2.1 + (sSqrR a4 a5).2.1 = B at *
    rcases ckS_cases A B with ⟨k, _⟩ | ⟨k, _⟩
    · have := valS (sqrt_val k e4)
      omega
    · unfold sSqrtR at e4
      rw [if_neg (by omega)] at e4
      cases e4
  · unfold vNormP sTold at e ⊢
    split at e
    · exact absurd rfl e
    · rw [if_neg (by assumption)]; simp
theorem dot_val {a0 a1 a2 a3 a4 a5 d0 d1 d2 d3 d4 d5 : Int} (e : (vDotR a0 a1 a2 a3 a4 a5 d0 d1 d2 d3 d4 d5).2.2 = 0) : ckS (vDotR a0 a1 a2 a3 a4 a5 d0 d1 d2 d3 d4 d5).1 (vDotR a0 a1 a2 a3 a4 a5 d0 d1 d2 d3 d4 d5).2.1 = 0 := by
  unfold vDotR vDotQ at e ⊢
  obtain ⟨_, h'⟩ := sTold_zero e
  rw [h']
  exact add_val _ _ _ _
theorem norm_meet {a0 a1 a2 a3 a4 a5 : Int} (n : Int × Int × Int) (hn : vNormP a0 a1 a2 a3 a4 a5 = n) (e : n.2.2 = 0) (f : (vDotR a0 a1 a2 a3 a4 a5 a0 a1 a2 a3 a4 a5).2.2 = 0) (g : (sSqrR n.1 n.2.1).2.2 = 0) :
    (sMeetR (sSqrR n.1 n.2.1).1 (sSqrR n.1 n.2.1).2.1 (vDotR a0 a1 a2 a3 a4 a5 a0 a1 a2 a3 a4 a5).1 (vDotR a0 a1 a2 a3 a4 a5 a0 a1 a2 a3 a4 a5).2.1).2.2 = 0 := by
  have h := norm_dot n hn e f g
  have k : ckS n.1 n.2.1 = 0 := by
    rcases ckS_cases n.1 n.2.1 with ⟨k, _⟩ | ⟨k, _⟩
    · exact k
    · unfold sSqrR at g; rw [if_neg (by omega)] at g; cases g
  have k1 := sqr_val k g
  have k2 := dot_val f
  have v1 := valS k1
  have v2 := valS k2
  unfold sMeetR
  rw [if_pos (val2 k1 k2), if_neg (by omega)]
/-- A Boolean that is true only under P. -/
def BoolIf (v : Value) (P : Prop) : Prop := ∃ b : Bool, v = .bool b ∧ (b = true → P)

set_option maxRecDepth 100000 in
set_option maxHeartbeats 16000000 in
theorem vecSquares_true (a0 a1 a2 a3 a4 a5 d0 d1 d2 d3 d4 d5 p0 q0 r0 p1 q1 r1 p2 q2 r2 p3 q3 r3 p4 q4 r4 p5 q5 r5 : Int) (w : World) (q00 : 0 ≤ q0) (q01 : q0 ≤ 255) (r00 : 0 ≤ r0) (r01 : r0 ≤ 4294967295) (q10 : 0 ≤ q1) (q11 : q1 ≤ 255) (r10 : 0 ≤ r1) (r11 : r1 ≤ 4294967295) (q20 : 0 ≤ q2) (q21 : q2 ≤ 255) (r20 : 0 ≤ r2) (r21 : r2 ≤ 4294967295) (q30 : 0 ≤ q3) (q31 : q3 ≤ 255) (r30 : 0 ≤ r3) (r31 : r3 ≤ 4294967295) (q40 : 0 ≤ q4) (q41 : q4 ≤ 255) (r40 : 0 ≤ r4) (r41 : r4 ≤ 4294967295) (q50 : 0 ≤ q5) (q51 : q5 ≤ 255) (r50 : 0 ≤ r5) (r51 : r5 ≤ 4294967295) :
    Calls Try.prog 5 #[.agg #[.int .i64 a0, .int .i64 a1, .int .i64 a2, .int .i64 a3, .int .i64 a4, .int .i64 a5, .int .i64 d0, .int .i64 d1, .int .i64 d2, .int .i64 d3, .int .i64 d4, .int .i64 d5, .int .i64 p0, .int .u8 q0, .int .u32 r0, .int .i64 p1, .int .u8 q1, .int .u32 r1, .int .i64 p2, .int .u8 q2, .int .u32 r2, .int .i64 p3, .int .u8 q3, .int .u32 r3, .int .i64 p4, .int .u8 q4, .int .u32 r4, .int .i64 p5, .int .u8 q5, .int .u32 r5]] w fun r w' => r = .returned (.bool true) ∧ Below w.heap.size w w' := by
  obtain ⟨x0, x1, x2, x3, x4, x5, y0, y1, y2, y3, y4, y5, s0, s1, s2, s3, s4, s5, hx, hy, hs, hP⟩ := vPairs_any a0 a1 a2 a3 a4 a5 d0 d1 d2 d3 d4 d5 p0 q0 r0 p1 q1 r1 p2 q2 r2 p3 q3 r3 p4 q4 r4 p5 q5 r5 q00 q01 r00 r01 q10 q11 r10 r11 q20 q21 r20 r21 q30 q31 r30 r31 q40 q41 r40 r41 q50 q51 r50 r51
  have b0_ := Bn.new w #[.int .i64 a0, .int .i64 a1, .int .i64 a2, .int .i64 a3, .int .i64 a4, .int .i64 a5, .int .i64 d0, .int .i64 d1, .int .i64 d2, .int .i64 d3, .int .i64 d4, .int .i64 d5, .int .i64 p0, .int .u8 q0, .int .u32 r0, .int .i64 p1, .int .u8 q1, .int .u32 r1, .int .i64 p2, .int .u8 q2, .int .u32 r2, .int .i64 p3, .int .u8 q3, .int .u32 r3, .int .i64 p4, .int .u8 q4, .int .u32 r4, .int .i64 p5, .int .u8 q5, .int .u32 r5] 32
  have hB : Below w.heap.size w (w.alloc (.cells #[.int .i64 a0, .int .i64 a1, .int .i64 a2, .int .i64 a3, .int .i64 a4, .int .i64 a5, .int .i64 d0, .int .i64 d1, .int .i64 d2, .int .i64 d3, .int .i64 d4, .int .i64 d5, .int .i64 p0, .int .u8 q0, .int .u32 r0, .int .i64 p1, .int .u8 q1, .int .u32 r1, .int .i64 p2, .int .u8 q2, .int .u32 r2, .int .i64 p3, .int .u8 q3, .int .u32 r3, .int .i64 p4, .int .u8 q4, .int .u32 r4, .int .i64 p5, .int .u8 q5, .int .u32 r5] 32)) := by (repeat (first | with_reducible exact Below.refl _ _ | with_reducible assumption | refine Below.alloc ?_ (by (try simp); try omega) _ | refine Below.setCell ?_ (by (try simp); try omega) _ | refine below_drewN ?_ _ | refine Below.drew ?_ | (with_reducible refine Below.trans ?_ (Below.mono (by assumption) (by (try simp); try omega)))))
  go_enter Try.func5, Try.ntmps5
  go_wp2_with fail
  generalize (w.alloc (.cells #[.int .i64 a0, .int .i64 a1, .int .i64 a2, .int .i64 a3, .int .i64 a4, .int .i64 a5, .int .i64 d0, .int .i64 d1, .int .i64 d2, .int .i64 d3, .int .i64 d4, .int .i64 d5, .int .i64 p0, .int .u8 q0, .int .u32 r0, .int .i64 p1, .int .u8 q1, .int .u32 r1, .int .i64 p2, .int .u8 q2, .int .u32 r2, .int .i64 p3, .int .u8 q3, .int .u32 r3, .int .i64 p4, .int .u8 q4, .int .u32 r4, .int .i64 p5, .int .u8 q5, .int .u32 r5] 32)) = v0 at *
  generalize hn : w.heap.size = n at *
  go_at_call 7
  refine (works_true _).mono ?_
  rintro r u1 ⟨rfl, hb⟩
  replace b0_ := b0_.keep hb
  replace hB := hB.trans (hb.mono (by have := hB.size; omega))
  clear hb
  go_wp2_with (refine wpList_load_row rfl _ _ rfl n (by rfl) _ _ _ _ b0_ Try.underlying32 rfl (by kernel_rfl) ?_)
  go_at_call 8
  refine (hP _).mono ?_
  rintro r u2 ⟨g, rfl, G, hb⟩
  replace b0_ := b0_.keep hb
  replace hB := hB.trans (hb.mono (by have := hB.size; omega))
  clear hb hP b0_
  generalize (.agg #[.int .i64 a0, .int .i64 a1, .int .i64 a2, .int .i64 a3, .int .i64 a4, .int .i64 a5, .int .i64 d0, .int .i64 d1, .int .i64 d2, .int .i64 d3, .int .i64 d4, .int .i64 d5, .int .i64 p0, .int .u8 q0, .int .u32 r0, .int .i64 p1, .int .u8 q1, .int .u32 r1, .int .i64 p2, .int .u8 q2, .int .u32 r2, .int .i64 p3, .int .u8 q3, .int .u32 r3, .int .i64 p4, .int .u8 q4, .int .u32 r4, .int .i64 p5, .int .u8 q5, .int .u32 r5] : Value) = va at *
  have hcs : ∀ k : Int, 0 ≤ k → k < 2 → ∃ e0 e1 e2 e3 e4 e5 f0 f1 f2 f3 f4 f5 : Int, ckV e0 e1 e2 e3 e4 e5 = 0 ∧ ckV f0 f1 f2 f3 f4 f5 = 0 ∧ (#[.int .i64 a0, .int .i64 a1, .int .i64 a2, .int .i64 a3, .int .i64 a4, .int .i64 a5, .int .i64 d0, .int .i64 d1, .int .i64 d2, .int .i64 d3, .int .i64 d4, .int .i64 d5, .int .i64 x0, .int .i64 x1, .int .i64 x2, .int .i64 x3, .int .i64 x4, .int .i64 x5, .int .i64 y0, .int .i64 y1, .int .i64 y2, .int .i64 y3, .int .i64 y4, .int .i64 y5, .int .i64 s0, .int .i64 s1, .int .i64 s2, .int .i64 s3, .int .i64 s4, .int .i64 s5, .int .i64 y0, .int .i64 y1, .int .i64 y2, .int .i64 y3, .int .i64 y4, .int .i64 y5, .int .i64 s0, .int .i64 s1, .int .i64 s2, .int .i64 s3, .int .i64 s4, .int .i64 s5, .int .i64 d0, .int .i64 d1, .int .i64 d2, .int .i64 d3, .int .i64 d4, .int .i64 d5] : Array Value)[12 + k.toNat * 12]? = some (.int .i64 e0) ∧ (#[.int .i64 a0, .int .i64 a1, .int .i64 a2, .int .i64 a3, .int .i64 a4, .int .i64 a5, .int .i64 d0, .int .i64 d1, .int .i64 d2, .int .i64 d3, .int .i64 d4, .int .i64 d5, .int .i64 x0, .int .i64 x1, .int .i64 x2, .int .i64 x3, .int .i64 x4, .int .i64 x5, .int .i64 y0, .int .i64 y1, .int .i64 y2, .int .i64 y3, .int .i64 y4, .int .i64 y5, .int .i64 s0, .int .i64 s1, .int .i64 s2, .int .i64 s3, .int .i64 s4, .int .i64 s5, .int .i64 y0, .int .i64 y1, .int .i64 y2, .int .i64 y3, .int .i64 y4, .int .i64 y5, .int .i64 s0, .int .i64 s1, .int .i64 s2, .int .i64 s3, .int .i64 s4, .int .i64 s5, .int .i64 d0, .int .i64 d1, .int .i64 d2, .int .i64 d3, .int .i64 d4, .int .i64 d5] : Array Value)[12 + k.toNat * 12 + 1]? = some (.int .i64 e1) ∧ (#[.int .i64 a0, .int .i64 a1, .int .i64 a2, .int .i64 a3, .int .i64 a4, .int .i64 a5, .int .i64 d0, .int .i64 d1, .int .i64 d2, .int .i64 d3, .int .i64 d4, .int .i64 d5, .int .i64 x0, .int .i64 x1, .int .i64 x2, .int .i64 x3, .int .i64 x4, .int .i64 x5, .int .i64 y0, .int .i64 y1, .int .i64 y2, .int .i64 y3, .int .i64 y4, .int .i64 y5, .int .i64 s0, .int .i64 s1, .int .i64 s2, .int .i64 s3, .int .i64 s4, .int .i64 s5, .int .i64 y0, .int .i64 y1, .int .i64 y2, .int .i64 y3, .int .i64 y4, .int .i64 y5, .int .i64 s0, .int .i64 s1, .int .i64 s2, .int .i64 s3, .int .i64 s4, .int .i64 s5, .int .i64 d0, .int .i64 d1, .int .i64 d2, .int .i64 d3, .int .i64 d4, .int .i64 d5] : Array Value)[12 + k.toNat * 12 + 2]? = some (.int .i64 e2) ∧ (#[.int .i64 a0, .int .i64 a1, .int .i64 a2, .int .i64 a3, .int .i64 a4, .int .i64 a5, .int .i64 d0, .int .i64 d1, .int .i64 d2, .int .i64 d3, .int .i64 d4, .int .i64 d5, .int .i64 x0, .int .i64 x1, .int .i64 x2, .int .i64 x3, .int .i64 x4, .int .i64 x5, .int .i64 y0, .int .i64 y1, .int .i64 y2, .int .i64 y3, .int .i64 y4, .int .i64 y5, .int .i64 s0, .int .i64 s1, .int .i64 s2, .int .i64 s3, .int .i64 s4, .int .i64 s5, .int .i64 y0, .int .i64 y1, .int .i64 y2, .int .i64 y3, .int .i64 y4, .int .i64 y5, .int .i64 s0, .int .i64 s1, .int .i64 s2, .int .i64 s3, .int .i64 s4, .int .i64 s5, .int .i64 d0, .int .i64 d1, .int .i64 d2, .int .i64 d3, .int .i64 d4, .int .i64 d5] : Array Value)[12 + k.toNat * 12 + 3]? = some (.int .i64 e3) ∧ (#[.int .i64 a0, .int .i64 a1, .int .i64 a2, .int .i64 a3, .int .i64 a4, .int .i64 a5, .int .i64 d0, .int .i64 d1, .int .i64 d2, .int .i64 d3, .int .i64 d4, .int .i64 d5, .int .i64 x0, .int .i64 x1, .int .i64 x2, .int .i64 x3, .int .i64 x4, .int .i64 x5, .int .i64 y0, .int .i64 y1, .int .i64 y2, .int .i64 y3, .int .i64 y4, .int .i64 y5, .int .i64 s0, .int .i64 s1, .int .i64 s2, .int .i64 s3, .int .i64 s4, .int .i64 s5, .int .i64 y0, .int .i64 y1, .int .i64 y2, .int .i64 y3, .int .i64 y4, .int .i64 y5, .int .i64 s0, .int .i64 s1, .int .i64 s2, .int .i64 s3, .int .i64 s4, .int .i64 s5, .int .i64 d0, .int .i64 d1, .int .i64 d2, .int .i64 d3, .int .i64 d4, .int .i64 d5] : Array Value)[12 + k.toNat * 12 + 4]? = some (.int .i64 e4) ∧ (#[.int .i64 a0, .int .i64 a1, .int .i64 a2, .int .i64 a3, .int .i64 a4, .int .i64 a5, .int .i64 d0, .int .i64 d1, .int .i64 d2, .int .i64 d3, .int .i64 d4, .int .i64 d5, .int .i64 x0, .int .i64 x1, .int .i64 x2, .int .i64 x3, .int .i64 x4, .int .i64 x5, .int .i64 y0, .int .i64 y1, .int .i64 y2, .int .i64 y3, .int .i64 y4, .int .i64 y5, .int .i64 s0, .int .i64 s1, .int .i64 s2, .int .i64 s3, .int .i64 s4, .int .i64 s5, .int .i64 y0, .int .i64 y1, .int .i64 y2, .int .i64 y3, .int .i64 y4, .int .i64 y5, .int .i64 s0, .int .i64 s1, .int .i64 s2, .int .i64 s3, .int .i64 s4, .int .i64 s5, .int .i64 d0, .int .i64 d1, .int .i64 d2, .int .i64 d3, .int .i64 d4, .int .i64 d5] : Array Value)[12 + k.toNat * 12 + 5]? = some (.int .i64 e5) ∧ (#[.int .i64 a0, .int .i64 a1, .int .i64 a2, .int .i64 a3, .int .i64 a4, .int .i64 a5, .int .i64 d0, .int .i64 d1, .int .i64 d2, .int .i64 d3, .int .i64 d4, .int .i64 d5, .int .i64 x0, .int .i64 x1, .int .i64 x2, .int .i64 x3, .int .i64 x4, .int .i64 x5, .int .i64 y0, .int .i64 y1, .int .i64 y2, .int .i64 y3, .int .i64 y4, .int .i64 y5, .int .i64 s0, .int .i64 s1, .int .i64 s2, .int .i64 s3, .int .i64 s4, .int .i64 s5, .int .i64 y0, .int .i64 y1, .int .i64 y2, .int .i64 y3, .int .i64 y4, .int .i64 y5, .int .i64 s0, .int .i64 s1, .int .i64 s2, .int .i64 s3, .int .i64 s4, .int .i64 s5, .int .i64 d0, .int .i64 d1, .int .i64 d2, .int .i64 d3, .int .i64 d4, .int .i64 d5] : Array Value)[12 + k.toNat * 12 + 6]? = some (.int .i64 f0) ∧ (#[.int .i64 a0, .int .i64 a1, .int .i64 a2, .int .i64 a3, .int .i64 a4, .int .i64 a5, .int .i64 d0, .int .i64 d1, .int .i64 d2, .int .i64 d3, .int .i64 d4, .int .i64 d5, .int .i64 x0, .int .i64 x1, .int .i64 x2, .int .i64 x3, .int .i64 x4, .int .i64 x5, .int .i64 y0, .int .i64 y1, .int .i64 y2, .int .i64 y3, .int .i64 y4, .int .i64 y5, .int .i64 s0, .int .i64 s1, .int .i64 s2, .int .i64 s3, .int .i64 s4, .int .i64 s5, .int .i64 y0, .int .i64 y1, .int .i64 y2, .int .i64 y3, .int .i64 y4, .int .i64 y5, .int .i64 s0, .int .i64 s1, .int .i64 s2, .int .i64 s3, .int .i64 s4, .int .i64 s5, .int .i64 d0, .int .i64 d1, .int .i64 d2, .int .i64 d3, .int .i64 d4, .int .i64 d5] : Array Value)[12 + k.toNat * 12 + 7]? = some (.int .i64 f1) ∧ (#[.int .i64 a0, .int .i64 a1, .int .i64 a2, .int .i64 a3, .int .i64 a4, .int .i64 a5, .int .i64 d0, .int .i64 d1, .int .i64 d2, .int .i64 d3, .int .i64 d4, .int .i64 d5, .int .i64 x0, .int .i64 x1, .int .i64 x2, .int .i64 x3, .int .i64 x4, .int .i64 x5, .int .i64 y0, .int .i64 y1, .int .i64 y2, .int .i64 y3, .int .i64 y4, .int .i64 y5, .int .i64 s0, .int .i64 s1, .int .i64 s2, .int .i64 s3, .int .i64 s4, .int .i64 s5, .int .i64 y0, .int .i64 y1, .int .i64 y2, .int .i64 y3, .int .i64 y4, .int .i64 y5, .int .i64 s0, .int .i64 s1, .int .i64 s2, .int .i64 s3, .int .i64 s4, .int .i64 s5, .int .i64 d0, .int .i64 d1, .int .i64 d2, .int .i64 d3, .int .i64 d4, .int .i64 d5] : Array Value)[12 + k.toNat * 12 + 8]? = some (.int .i64 f2) ∧ (#[.int .i64 a0, .int .i64 a1, .int .i64 a2, .int .i64 a3, .int .i64 a4, .int .i64 a5, .int .i64 d0, .int .i64 d1, .int .i64 d2, .int .i64 d3, .int .i64 d4, .int .i64 d5, .int .i64 x0, .int .i64 x1, .int .i64 x2, .int .i64 x3, .int .i64 x4, .int .i64 x5, .int .i64 y0, .int .i64 y1, .int .i64 y2, .int .i64 y3, .int .i64 y4, .int .i64 y5, .int .i64 s0, .int .i64 s1, .int .i64 s2, .int .i64 s3, .int .i64 s4, .int .i64 s5, .int .i64 y0, .int .i64 y1, .int .i64 y2, .int .i64 y3, .int .i64 y4, .int .i64 y5, .int .i64 s0, .int .i64 s1, .int .i64 s2, .int .i64 s3, .int .i64 s4, .int .i64 s5, .int .i64 d0, .int .i64 d1, .int .i64 d2, .int .i64 d3, .int .i64 d4, .int .i64 d5] : Array Value)[12 + k.toNat * 12 + 9]? = some (.int .i64 f3) ∧ (#[.int .i64 a0, .int .i64 a1, .int .i64 a2, .int .i64 a3, .int .i64 a4, .int .i64 a5, .int .i64 d0, .int .i64 d1, .int .i64 d2, .int .i64 d3, .int .i64 d4, .int .i64 d5, .int .i64 x0, .int .i64 x1, .int .i64 x2, .int .i64 x3, .int .i64 x4, .int .i64 x5, .int .i64 y0, .int .i64 y1, .int .i64 y2, .int .i64 y3, .int .i64 y4, .int .i64 y5, .int .i64 s0, .int .i64 s1, .int .i64 s2, .int .i64 s3, .int .i64 s4, .int .i64 s5, .int .i64 y0, .int .i64 y1, .int .i64 y2, .int .i64 y3, .int .i64 y4, .int .i64 y5, .int .i64 s0, .int .i64 s1, .int .i64 s2, .int .i64 s3, .int .i64 s4, .int .i64 s5, .int .i64 d0, .int .i64 d1, .int .i64 d2, .int .i64 d3, .int .i64 d4, .int .i64 d5] : Array Value)[12 + k.toNat * 12 + 10]? = some (.int .i64 f4) ∧ (#[.int .i64 a0, .int .i64 a1, .int .i64 a2, .int .i64 a3, .int .i64 a4, .int .i64 a5, .int .i64 d0, .int .i64 d1, .int .i64 d2, .int .i64 d3, .int .i64 d4, .int .i64 d5, .int .i64 x0, .int .i64 x1, .int .i64 x2, .int .i64 x3, .int .i64 x4, .int .i64 x5, .int .i64 y0, .int .i64 y1, .int .i64 y2, .int .i64 y3, .int .i64 y4, .int .i64 y5, .int .i64 s0, .int .i64 s1, .int .i64 s2, .int .i64 s3, .int .i64 s4, .int .i64 s5, .int .i64 y0, .int .i64 y1, .int .i64 y2, .int .i64 y3, .int .i64 y4, .int .i64 y5, .int .i64 s0, .int .i64 s1, .int .i64 s2, .int .i64 s3, .int .i64 s4, .int .i64 s5, .int .i64 d0, .int .i64 d1, .int .i64 d2, .int .i64 d3, .int .i64 d4, .int .i64 d5] : Array Value)[12 + k.toNat * 12 + 11]? = some (.int .i64 f5) := by
    intro k h0 h1
    obtain rfl | rfl : k = 0 ∨ k = 1 := by omega
    · exact ⟨x0, x1, x2, x3, x4, x5, y0, y1, y2, y3, y4, y5, hx, hy, rfl, rfl, rfl, rfl, rfl, rfl, rfl, rfl, rfl, rfl, rfl, rfl⟩
    · exact ⟨s0, s1, s2, s3, s4, s5, y0, y1, y2, y3, y4, y5, hs, hy, rfl, rfl, rfl, rfl, rfl, rfl, rfl, rfl, rfl, rfl, rfl, rfl⟩
  generalize (#[.int .i64 a0, .int .i64 a1, .int .i64 a2, .int .i64 a3, .int .i64 a4, .int .i64 a5, .int .i64 d0, .int .i64 d1, .int .i64 d2, .int .i64 d3, .int .i64 d4, .int .i64 d5, .int .i64 x0, .int .i64 x1, .int .i64 x2, .int .i64 x3, .int .i64 x4, .int .i64 x5, .int .i64 y0, .int .i64 y1, .int .i64 y2, .int .i64 y3, .int .i64 y4, .int .i64 y5, .int .i64 s0, .int .i64 s1, .int .i64 s2, .int .i64 s3, .int .i64 s4, .int .i64 s5, .int .i64 y0, .int .i64 y1, .int .i64 y2, .int .i64 y3, .int .i64 y4, .int .i64 y5, .int .i64 s0, .int .i64 s1, .int .i64 s2, .int .i64 s3, .int .i64 s4, .int .i64 s5, .int .i64 d0, .int .i64 d1, .int .i64 d2, .int .i64 d3, .int .i64 d4, .int .i64 d5] : Array Value) = cs at *
  replace hcs := Lib.hid hcs
  clear hx hy hs q00 q01 r00 r01 q10 q11 r10 r11 q20 q21 r20 r21 q30 q31 r30 r31 q40 q41 r40 r41 q50 q51 r50 r51
  go_wp2_with fail
  go_loopw [28] (fun vi wr => ∃ k : Int, 0 ≤ k ∧ k ≤ 2 ∧ vi = .int .i64 k ∧ Below n w wr ∧ Bn wr g cs 40) (fun vi _ => 2 - (intOf vi).toNat)
  case atStart => exact ⟨0, by omega, by omega, rfl, hB, G⟩
  case round =>
    clear hB G
    obtain ⟨k, k0, k2, rfl, hB, G⟩ := hrel
    by_cases hk : k < 2
    · obtain ⟨e0, e1, e2, e3, e4, e5, f0, f1, f2, f3, f4, f5, ke, kf, d0_, d1_, d2_, d3_, d4_, d5_, d6_, d7_, d8_, d9_, d10_, d11_⟩ := hcs.out k k0 hk
      have c0 : wr.cell? ⟨g, 12 + k.toNat * 12, none⟩ = some (.int .i64 e0) := G.cell _ _ d0_
      have c1 : wr.cell? ⟨g, 12 + k.toNat * 12 + 1, none⟩ = some (.int .i64 e1) := G.cell _ _ d1_
      have c2 : wr.cell? ⟨g, 12 + k.toNat * 12 + 2, none⟩ = some (.int .i64 e2) := G.cell _ _ d2_
      have c3 : wr.cell? ⟨g, 12 + k.toNat * 12 + 3, none⟩ = some (.int .i64 e3) := G.cell _ _ d3_
      have c4 : wr.cell? ⟨g, 12 + k.toNat * 12 + 4, none⟩ = some (.int .i64 e4) := G.cell _ _ d4_
      have c5 : wr.cell? ⟨g, 12 + k.toNat * 12 + 5, none⟩ = some (.int .i64 e5) := G.cell _ _ d5_
      have c6 : wr.cell? ⟨g, 12 + k.toNat * 12 + 6, none⟩ = some (.int .i64 f0) := G.cell _ _ d6_
      have c7 : wr.cell? ⟨g, 12 + k.toNat * 12 + 7, none⟩ = some (.int .i64 f1) := G.cell _ _ d7_
      have c8 : wr.cell? ⟨g, 12 + k.toNat * 12 + 8, none⟩ = some (.int .i64 f2) := G.cell _ _ d8_
      have c9 : wr.cell? ⟨g, 12 + k.toNat * 12 + 9, none⟩ = some (.int .i64 f3) := G.cell _ _ d9_
      have c10 : wr.cell? ⟨g, 12 + k.toNat * 12 + 10, none⟩ = some (.int .i64 f4) := G.cell _ _ d10_
      have c11 : wr.cell? ⟨g, 12 + k.toNat * 12 + 11, none⟩ = some (.int .i64 f5) := G.cell _ _ d11_
      clear d0_ d1_ d2_ d3_ d4_ d5_ d6_ d7_ d8_ d9_ d10_ d11_
      go_upto_region 6 with fail
      go_cut [5, 6] from 32 to 169 (fun va vb wx => ∃ p q : Nat, va = .pointer (some ⟨p, 0, none⟩) ∧ vb = .pointer (some ⟨q, 0, none⟩) ∧ p ≠ q ∧ n ≤ p ∧ n ≤ q ∧ g < p ∧ g < q ∧ p < wx.heap.size ∧ q < wx.heap.size ∧ Bn wx p #[.int .i64 e0, .int .i64 e1, .int .i64 e2, .int .i64 e3, .int .i64 e4, .int .i64 e5] 25 ∧ Bn wx q #[.int .i64 f0, .int .i64 f1, .int .i64 f2, .int .i64 f3, .int .i64 f4, .int .i64 f5] 25 ∧ Below n w wx ∧ Bn wx g cs 40)
      case first =>
        clear ke kf c0 c1 c2 c3 c4 c5 c6 c7 c8 c9 c10 c11
        have hsz : n ≤ wr.heap.size := by have := hB.size; omega
        have lg := G.lt
        have b4 := Bn.new wr #[.int .i64 e0, .int .i64 e1, .int .i64 e2, .int .i64 e3, .int .i64 e4, .int .i64 e5, .int .i64 f0, .int .i64 f1, .int .i64 f2, .int .i64 f3, .int .i64 f4, .int .i64 f5] 40
        replace G := G.alloc (.cells #[.int .i64 e0, .int .i64 e1, .int .i64 e2, .int .i64 e3, .int .i64 e4, .int .i64 e5, .int .i64 f0, .int .i64 f1, .int .i64 f2, .int .i64 f3, .int .i64 f4, .int .i64 f5] 40)
        replace hB := hB.alloc hsz (.cells #[.int .i64 e0, .int .i64 e1, .int .i64 e2, .int .i64 e3, .int .i64 e4, .int .i64 e5, .int .i64 f0, .int .i64 f1, .int .i64 f2, .int .i64 f3, .int .i64 f4, .int .i64 f5] 40)
        generalize (wr.alloc (.cells #[.int .i64 e0, .int .i64 e1, .int .i64 e2, .int .i64 e3, .int .i64 e4, .int .i64 e5, .int .i64 f0, .int .i64 f1, .int .i64 f2, .int .i64 f3, .int .i64 f4, .int .i64 f5] 40)) = v1 at *
        generalize wr.heap.size = g4 at *
        have lg4 := b4.lt
        have c0 : v1.cell? ⟨g4, 0, none⟩ = some (.int .i64 e0) := b4.cell 0 _ rfl
        have c1 : v1.cell? ⟨g4, 1, none⟩ = some (.int .i64 e1) := b4.cell 1 _ rfl
        have c2 : v1.cell? ⟨g4, 2, none⟩ = some (.int .i64 e2) := b4.cell 2 _ rfl
        have c3 : v1.cell? ⟨g4, 3, none⟩ = some (.int .i64 e3) := b4.cell 3 _ rfl
        have c4 : v1.cell? ⟨g4, 4, none⟩ = some (.int .i64 e4) := b4.cell 4 _ rfl
        have c5 : v1.cell? ⟨g4, 5, none⟩ = some (.int .i64 e5) := b4.cell 5 _ rfl
        have c6 : v1.cell? ⟨g4, 6, none⟩ = some (.int .i64 f0) := b4.cell 6 _ rfl
        have c7 : v1.cell? ⟨g4, 7, none⟩ = some (.int .i64 f1) := b4.cell 7 _ rfl
        have c8 : v1.cell? ⟨g4, 8, none⟩ = some (.int .i64 f2) := b4.cell 8 _ rfl
        have c9 : v1.cell? ⟨g4, 9, none⟩ = some (.int .i64 f3) := b4.cell 9 _ rfl
        have c10 : v1.cell? ⟨g4, 10, none⟩ = some (.int .i64 f4) := b4.cell 10 _ rfl
        have c11 : v1.cell? ⟨g4, 11, none⟩ = some (.int .i64 f5) := b4.cell 11 _ rfl
        clear b4
        go_region_held3 (fun w' => w'.cell? ⟨g4, 0, none⟩ = some (.int .i64 e0) ∧ w'.cell? ⟨g4, 1, none⟩ = some (.int .i64 e1) ∧ w'.cell? ⟨g4, 2, none⟩ = some (.int .i64 e2) ∧ w'.cell? ⟨g4, 3, none⟩ = some (.int .i64 e3) ∧ w'.cell? ⟨g4, 4, none⟩ = some (.int .i64 e4) ∧ w'.cell? ⟨g4, 5, none⟩ = some (.int .i64 e5) ∧ w'.cell? ⟨g4, 6, none⟩ = some (.int .i64 f0) ∧ w'.cell? ⟨g4, 7, none⟩ = some (.int .i64 f1) ∧ w'.cell? ⟨g4, 8, none⟩ = some (.int .i64 f2) ∧ w'.cell? ⟨g4, 9, none⟩ = some (.int .i64 f3) ∧ w'.cell? ⟨g4, 10, none⟩ = some (.int .i64 f4) ∧ w'.cell? ⟨g4, 11, none⟩ = some (.int .i64 f5))
          (first | with_reducible exact ⟨c0, c1, c2, c3, c4, c5, c6, c7, c8, c9, c10, c11⟩ | with_reducible exact ⟨cellDrewI c0, cellDrewI c1, cellDrewI c2, cellDrewI c3, cellDrewI c4, cellDrewI c5, cellDrewI c6, cellDrewI c7, cellDrewI c8, cellDrewI c9, cellDrewI c10, cellDrewI c11⟩ | with_reducible exact ⟨cellDrewI (cellAllocI c0), cellDrewI (cellAllocI c1), cellDrewI (cellAllocI c2), cellDrewI (cellAllocI c3), cellDrewI (cellAllocI c4), cellDrewI (cellAllocI c5), cellDrewI (cellAllocI c6), cellDrewI (cellAllocI c7), cellDrewI (cellAllocI c8), cellDrewI (cellAllocI c9), cellDrewI (cellAllocI c10), cellDrewI (cellAllocI c11)⟩ | with_reducible exact ⟨cellDrewI (cellAllocI (cellAllocI c0)), cellDrewI (cellAllocI (cellAllocI c1)), cellDrewI (cellAllocI (cellAllocI c2)), cellDrewI (cellAllocI (cellAllocI c3)), cellDrewI (cellAllocI (cellAllocI c4)), cellDrewI (cellAllocI (cellAllocI c5)), cellDrewI (cellAllocI (cellAllocI c6)), cellDrewI (cellAllocI (cellAllocI c7)), cellDrewI (cellAllocI (cellAllocI c8)), cellDrewI (cellAllocI (cellAllocI c9)), cellDrewI (cellAllocI (cellAllocI c10)), cellDrewI (cellAllocI (cellAllocI c11))⟩ | with_reducible exact ⟨cellAllocI (cellDrewI c0), cellAllocI (cellDrewI c1), cellAllocI (cellDrewI c2), cellAllocI (cellDrewI c3), cellAllocI (cellDrewI c4), cellAllocI (cellDrewI c5), cellAllocI (cellDrewI c6), cellAllocI (cellDrewI c7), cellAllocI (cellDrewI c8), cellAllocI (cellDrewI c9), cellAllocI (cellDrewI c10), cellAllocI (cellDrewI c11)⟩ | with_reducible exact ⟨cellAllocI (cellAllocI (cellDrewI c0)), cellAllocI (cellAllocI (cellDrewI c1)), cellAllocI (cellAllocI (cellDrewI c2)), cellAllocI (cellAllocI (cellDrewI c3)), cellAllocI (cellAllocI (cellDrewI c4)), cellAllocI (cellAllocI (cellDrewI c5)), cellAllocI (cellAllocI (cellDrewI c6)), cellAllocI (cellAllocI (cellDrewI c7)), cellAllocI (cellAllocI (cellDrewI c8)), cellAllocI (cellAllocI (cellDrewI c9)), cellAllocI (cellAllocI (cellDrewI c10)), cellAllocI (cellAllocI (cellDrewI c11))⟩)
          (fail)
        all_goals (go_wp2_with fail; go_meet)
        all_goals clear c0 c1 c2 c3 c4 c5 c6 c7 c8 c9 c10 c11
        all_goals have hsz1 : n ≤ v1.heap.size := by have := hB.size; omega
        all_goals have lg1 := G.lt
        all_goals refine ⟨_, _, rfl, rfl, ?_, ?_, ?_, ?_, ?_, ?_, ?_, ?_, ?_, ?_, ?_⟩
        all_goals (first | omega | (show _ < (World.alloc _ _).heap.size; simp <;> omega) | exact bnFst.drewI | exact bnSnd.drewI | exact ((G.alloc _).alloc _).drewI | exact ((hB.alloc hsz1 _).alloc (by simp; omega) _).drew)
      case rest =>
        as_aux_lemma =>
          obtain ⟨p, q, rfl, rfl, npq, np, nq, gp, gq, lp, lq, bP, bQ, hB, G⟩ := hcut
          clear c0 c1 c2 c3 c4 c5 c6 c7 c8 c9 c10 c11
          have bGx := G
          clear G
          have h1 := fun w => pCross_any e0 e1 e2 e3 e4 e5 f0 f1 f2 f3 f4 f5 w
          have F1 := fun e f => perp ke kf (vCrossR e0 e1 e2 e3 e4 e5 f0 f1 f2 f3 f4 f5) rfl e f
          generalize vCrossR e0 e1 e2 e3 e4 e5 f0 f1 f2 f3 f4 f5 = C at *
          have h2 := fun w => pDot_any e0 e1 e2 e3 e4 e5 C.x0 C.x1 C.y0 C.y1 C.z0 C.z1 w
          generalize vDotR e0 e1 e2 e3 e4 e5 C.x0 C.x1 C.y0 C.y1 C.z0 C.z1 = T at *
          have h3 := fun w => pNorm_any e0 e1 e2 e3 e4 e5 w
          have h4 := fun w => pDot_any e0 e1 e2 e3 e4 e5 e0 e1 e2 e3 e4 e5 w
          have F2 := fun e f g => norm_meet (vNormP e0 e1 e2 e3 e4 e5) rfl e f g
          have F3 := fun e f g => unit_one (vUnitR e0 e1 e2 e3 e4 e5) rfl e f g
          have F4 := fun e f g h => norm_sum (vAddR e0 e1 e2 e3 e4 e5 f0 f1 f2 f3 f4 f5) rfl e f g h
          have B1 := norm_bd e0 e1 e2 e3 e4 e5
          have B2 := norm_bd f0 f1 f2 f3 f4 f5
          have h7 := fun w => pUnit_any e0 e1 e2 e3 e4 e5 w
          generalize vUnitR e0 e1 e2 e3 e4 e5 = U at *
          have h8 := fun w => pNorm_any U.x0 U.x1 U.y0 U.y1 U.z0 U.z1 w
          generalize vNormP U.x0 U.x1 U.y0 U.y1 U.z0 U.z1 = O at *
          have h10 := fun w => pAdd_any e0 e1 e2 e3 e4 e5 f0 f1 f2 f3 f4 f5 w
          generalize vAddR e0 e1 e2 e3 e4 e5 f0 f1 f2 f3 f4 f5 = S at *
          have h11 := fun w => pNorm_any S.x0 S.x1 S.y0 S.y1 S.z0 S.z1 w
          generalize vNormP S.x0 S.x1 S.y0 S.y1 S.z0 S.z1 = L at *
          have h9 := fun w => pNorm_any f0 f1 f2 f3 f4 f5 w
          generalize vNormP f0 f1 f2 f3 f4 f5 = M at *
          generalize vNormP e0 e1 e2 e3 e4 e5 = N at *
          generalize vDotR e0 e1 e2 e3 e4 e5 e0 e1 e2 e3 e4 e5 = D at *
          have h5 := fun w => sSqr_any N.1 N.2.1 w
          generalize sSqrR N.1 N.2.1 = R at *
          have h6 := fun w => sMeet_any R.1 R.2.1 D.1 D.2.1 w
          generalize sMeetR R.1 R.2.1 D.1 D.2.1 = J at *
          clear ke kf
          replace F1 := Lib.hid F1
          replace F2 := Lib.hid F2
          replace F3 := Lib.hid F3
          replace F4 := Lib.hid F4
          have cP0 : wc.cell? ⟨p, 0, none⟩ = some (.int .i64 e0) := bP.cell 0 _ rfl
          have cP1 : wc.cell? ⟨p, 1, none⟩ = some (.int .i64 e1) := bP.cell 1 _ rfl
          have cP2 : wc.cell? ⟨p, 2, none⟩ = some (.int .i64 e2) := bP.cell 2 _ rfl
          have cP3 : wc.cell? ⟨p, 3, none⟩ = some (.int .i64 e3) := bP.cell 3 _ rfl
          have cP4 : wc.cell? ⟨p, 4, none⟩ = some (.int .i64 e4) := bP.cell 4 _ rfl
          have cP5 : wc.cell? ⟨p, 5, none⟩ = some (.int .i64 e5) := bP.cell 5 _ rfl
          have kP := bP.lt
          have cQ0 : wc.cell? ⟨q, 0, none⟩ = some (.int .i64 f0) := bQ.cell 0 _ rfl
          have cQ1 : wc.cell? ⟨q, 1, none⟩ = some (.int .i64 f1) := bQ.cell 1 _ rfl
          have cQ2 : wc.cell? ⟨q, 2, none⟩ = some (.int .i64 f2) := bQ.cell 2 _ rfl
          have cQ3 : wc.cell? ⟨q, 3, none⟩ = some (.int .i64 f3) := bQ.cell 3 _ rfl
          have cQ4 : wc.cell? ⟨q, 4, none⟩ = some (.int .i64 f4) := bQ.cell 4 _ rfl
          have cQ5 : wc.cell? ⟨q, 5, none⟩ = some (.int .i64 f5) := bQ.cell 5 _ rfl
          have kQ := bQ.lt
          go_wp2_with fail
          go_at_call 12
          refine (h1 _).mono ?_
          rintro r u1 ⟨rfl, hb⟩
          replace bP := bP.keep hb
          replace bQ := bQ.keep hb
          replace bGx := bGx.keep hb
          replace hB := hB.trans (hb.mono (by have := hB.size; omega))
          clear hb cP0 cP1 cP2 cP3 cP4 cP5 kP cQ0 cQ1 cQ2 cQ3 cQ4 cQ5 kQ
          have lP := bP.lt
          have lQ := bQ.lt
          have lGx := bGx.lt
          have hsz : n ≤ u1.heap.size := by have := hB.size; omega
          have bC := Bn.new u1 #[.int .i64 C.x0, .int .i64 C.x1, .int .i64 C.y0, .int .i64 C.y1, .int .i64 C.z0, .int .i64 C.z1] 25
          replace bP := bP.alloc (.cells #[.int .i64 C.x0, .int .i64 C.x1, .int .i64 C.y0, .int .i64 C.y1, .int .i64 C.z0, .int .i64 C.z1] 25)
          replace bQ := bQ.alloc (.cells #[.int .i64 C.x0, .int .i64 C.x1, .int .i64 C.y0, .int .i64 C.y1, .int .i64 C.z0, .int .i64 C.z1] 25)
          replace bGx := bGx.alloc (.cells #[.int .i64 C.x0, .int .i64 C.x1, .int .i64 C.y0, .int .i64 C.y1, .int .i64 C.z0, .int .i64 C.z1] 25)
          replace hB := hB.alloc hsz (.cells #[.int .i64 C.x0, .int .i64 C.x1, .int .i64 C.y0, .int .i64 C.y1, .int .i64 C.z0, .int .i64 C.z1] 25)
          have cP0 : (u1.alloc (.cells #[.int .i64 C.x0, .int .i64 C.x1, .int .i64 C.y0, .int .i64 C.y1, .int .i64 C.z0, .int .i64 C.z1] 25)).cell? ⟨p, 0, none⟩ = some (.int .i64 e0) := bP.cell 0 _ rfl
          have cP1 : (u1.alloc (.cells #[.int .i64 C.x0, .int .i64 C.x1, .int .i64 C.y0, .int .i64 C.y1, .int .i64 C.z0, .int .i64 C.z1] 25)).cell? ⟨p, 1, none⟩ = some (.int .i64 e1) := bP.cell 1 _ rfl
          have cP2 : (u1.alloc (.cells #[.int .i64 C.x0, .int .i64 C.x1, .int .i64 C.y0, .int .i64 C.y1, .int .i64 C.z0, .int .i64 C.z1] 25)).cell? ⟨p, 2, none⟩ = some (.int .i64 e2) := bP.cell 2 _ rfl
          have cP3 : (u1.alloc (.cells #[.int .i64 C.x0, .int .i64 C.x1, .int .i64 C.y0, .int .i64 C.y1, .int .i64 C.z0, .int .i64 C.z1] 25)).cell? ⟨p, 3, none⟩ = some (.int .i64 e3) := bP.cell 3 _ rfl
          have cP4 : (u1.alloc (.cells #[.int .i64 C.x0, .int .i64 C.x1, .int .i64 C.y0, .int .i64 C.y1, .int .i64 C.z0, .int .i64 C.z1] 25)).cell? ⟨p, 4, none⟩ = some (.int .i64 e4) := bP.cell 4 _ rfl
          have cP5 : (u1.alloc (.cells #[.int .i64 C.x0, .int .i64 C.x1, .int .i64 C.y0, .int .i64 C.y1, .int .i64 C.z0, .int .i64 C.z1] 25)).cell? ⟨p, 5, none⟩ = some (.int .i64 e5) := bP.cell 5 _ rfl
          have kP := bP.lt
          have cC0 : (u1.alloc (.cells #[.int .i64 C.x0, .int .i64 C.x1, .int .i64 C.y0, .int .i64 C.y1, .int .i64 C.z0, .int .i64 C.z1] 25)).cell? ⟨u1.heap.size, 0, none⟩ = some (.int .i64 C.x0) := bC.cell 0 _ rfl
          have cC1 : (u1.alloc (.cells #[.int .i64 C.x0, .int .i64 C.x1, .int .i64 C.y0, .int .i64 C.y1, .int .i64 C.z0, .int .i64 C.z1] 25)).cell? ⟨u1.heap.size, 1, none⟩ = some (.int .i64 C.x1) := bC.cell 1 _ rfl
          have cC2 : (u1.alloc (.cells #[.int .i64 C.x0, .int .i64 C.x1, .int .i64 C.y0, .int .i64 C.y1, .int .i64 C.z0, .int .i64 C.z1] 25)).cell? ⟨u1.heap.size, 2, none⟩ = some (.int .i64 C.y0) := bC.cell 2 _ rfl
          have cC3 : (u1.alloc (.cells #[.int .i64 C.x0, .int .i64 C.x1, .int .i64 C.y0, .int .i64 C.y1, .int .i64 C.z0, .int .i64 C.z1] 25)).cell? ⟨u1.heap.size, 3, none⟩ = some (.int .i64 C.y1) := bC.cell 3 _ rfl
          have cC4 : (u1.alloc (.cells #[.int .i64 C.x0, .int .i64 C.x1, .int .i64 C.y0, .int .i64 C.y1, .int .i64 C.z0, .int .i64 C.z1] 25)).cell? ⟨u1.heap.size, 4, none⟩ = some (.int .i64 C.z0) := bC.cell 4 _ rfl
          have cC5 : (u1.alloc (.cells #[.int .i64 C.x0, .int .i64 C.x1, .int .i64 C.y0, .int .i64 C.y1, .int .i64 C.z0, .int .i64 C.z1] 25)).cell? ⟨u1.heap.size, 5, none⟩ = some (.int .i64 C.z1) := bC.cell 5 _ rfl
          have kC := bC.lt
          go_wp2_with fail
          go_at_call 15
          refine (h2 _).mono ?_
          rintro r u2 ⟨rfl, hb⟩
          replace bP := bP.keep hb
          replace bQ := bQ.keep hb
          replace bGx := bGx.keep hb
          replace bC := bC.keep hb
          replace hB := hB.trans (hb.mono (by have := hB.size; omega))
          clear hb cP0 cP1 cP2 cP3 cP4 cP5 kP cC0 cC1 cC2 cC3 cC4 cC5 kC
          generalize u1.heap.size = gC at *
          clear hsz
          have lP := bP.lt
          have lQ := bQ.lt
          have lGx := bGx.lt
          have lC := bC.lt
          have hsz : n ≤ u2.heap.size := by have := hB.size; omega
          have bT := Bn.new u2 #[.int .i64 T.1, .int .i64 T.2.1] 23
          replace bP := bP.alloc (.cells #[.int .i64 T.1, .int .i64 T.2.1] 23)
          replace bQ := bQ.alloc (.cells #[.int .i64 T.1, .int .i64 T.2.1] 23)
          replace bGx := bGx.alloc (.cells #[.int .i64 T.1, .int .i64 T.2.1] 23)
          replace bC := bC.alloc (.cells #[.int .i64 T.1, .int .i64 T.2.1] 23)
          replace hB := hB.alloc hsz (.cells #[.int .i64 T.1, .int .i64 T.2.1] 23)
          go_upto_region 9 with fail
          generalize (u2.alloc (.cells #[.int .i64 T.1, .int .i64 T.2.1] 23)) = v2 at *
          generalize u2.heap.size = gT at *
          clear hsz
          go_cut [8, 10, 63] from 32 to 169 (fun v8 v10 v63 wx => v63 = .bool false ∧ wx = v2)
          case first =>
            have cT0 : v2.cell? ⟨gT, 0, none⟩ = some (.int .i64 T.1) := bT.cell 0 _ rfl
            have cT1 : v2.cell? ⟨gT, 1, none⟩ = some (.int .i64 T.2.1) := bT.cell 1 _ rfl
            have kT := bT.lt
            by_cases x0 : C.e = 0
            · rw [x0]
              by_cases x1 : T.2.2 = 0
              · rw [x1]
                obtain ⟨f0, f1⟩ := F1.out x0 x1
                go_wp2_with fail
                go_meet
                exact ⟨by first | rfl | (simp; omega), rfl⟩
              · have y1 : (T.2.2 == 0) = false := beq_eq_false_iff_ne.2 x1
                go_wp2_with fail
                go_meet
                exact ⟨by first | rfl | (simp; omega), rfl⟩
            · have y0 : (C.e == 0) = false := beq_eq_false_iff_ne.2 x0
              go_wp2_with fail
              go_meet
              exact ⟨by first | rfl | (simp; omega), rfl⟩
          case rest =>
            as_aux_lemma =>
              obtain ⟨rfl, rfl⟩ := hcut
              clear h1 h2 F1 bC
              have cP0 : wc.cell? ⟨p, 0, none⟩ = some (.int .i64 e0) := bP.cell 0 _ rfl
              have cP1 : wc.cell? ⟨p, 1, none⟩ = some (.int .i64 e1) := bP.cell 1 _ rfl
              have cP2 : wc.cell? ⟨p, 2, none⟩ = some (.int .i64 e2) := bP.cell 2 _ rfl
              have cP3 : wc.cell? ⟨p, 3, none⟩ = some (.int .i64 e3) := bP.cell 3 _ rfl
              have cP4 : wc.cell? ⟨p, 4, none⟩ = some (.int .i64 e4) := bP.cell 4 _ rfl
              have cP5 : wc.cell? ⟨p, 5, none⟩ = some (.int .i64 e5) := bP.cell 5 _ rfl
              have kP := bP.lt
              go_wp2_with fail
              go_at_call 17
              refine (h3 _).mono ?_
              rintro r u3 ⟨rfl, hb⟩
              replace bP := bP.keep hb
              replace bQ := bQ.keep hb
              replace bGx := bGx.keep hb
              replace bT := bT.keep hb
              replace hB := hB.trans (hb.mono (by have := hB.size; omega))
              clear hb cP0 cP1 cP2 cP3 cP4 cP5 kP
              have lP := bP.lt
              have lQ := bQ.lt
              have lGx := bGx.lt
              have lT := bT.lt
              have hsz : n ≤ u3.heap.size := by have := hB.size; omega
              have bN := Bn.new u3 #[.int .i64 N.1, .int .i64 N.2.1] 23
              replace bP := bP.alloc (.cells #[.int .i64 N.1, .int .i64 N.2.1] 23)
              replace bQ := bQ.alloc (.cells #[.int .i64 N.1, .int .i64 N.2.1] 23)
              replace bGx := bGx.alloc (.cells #[.int .i64 N.1, .int .i64 N.2.1] 23)
              replace bT := bT.alloc (.cells #[.int .i64 N.1, .int .i64 N.2.1] 23)
              replace hB := hB.alloc hsz (.cells #[.int .i64 N.1, .int .i64 N.2.1] 23)
              have cP0 : (u3.alloc (.cells #[.int .i64 N.1, .int .i64 N.2.1] 23)).cell? ⟨p, 0, none⟩ = some (.int .i64 e0) := bP.cell 0 _ rfl
              have cP1 : (u3.alloc (.cells #[.int .i64 N.1, .int .i64 N.2.1] 23)).cell? ⟨p, 1, none⟩ = some (.int .i64 e1) := bP.cell 1 _ rfl
              have cP2 : (u3.alloc (.cells #[.int .i64 N.1, .int .i64 N.2.1] 23)).cell? ⟨p, 2, none⟩ = some (.int .i64 e2) := bP.cell 2 _ rfl
              have cP3 : (u3.alloc (.cells #[.int .i64 N.1, .int .i64 N.2.1] 23)).cell? ⟨p, 3, none⟩ = some (.int .i64 e3) := bP.cell 3 _ rfl
              have cP4 : (u3.alloc (.cells #[.int .i64 N.1, .int .i64 N.2.1] 23)).cell? ⟨p, 4, none⟩ = some (.int .i64 e4) := bP.cell 4 _ rfl
              have cP5 : (u3.alloc (.cells #[.int .i64 N.1, .int .i64 N.2.1] 23)).cell? ⟨p, 5, none⟩ = some (.int .i64 e5) := bP.cell 5 _ rfl
              have kP := bP.lt
              go_wp2_with fail
              go_at_call 15
              refine (h4 _).mono ?_
              rintro r u4 ⟨rfl, hb⟩
              replace bP := bP.keep hb
              replace bQ := bQ.keep hb
              replace bGx := bGx.keep hb
              replace bT := bT.keep hb
              replace bN := bN.keep hb
              replace hB := hB.trans (hb.mono (by have := hB.size; omega))
              clear hb cP0 cP1 cP2 cP3 cP4 cP5 kP
              generalize u3.heap.size = gN at *
              clear hsz
              have zT0 : u4.frozen? ⟨gT, 0, none⟩ = false := bT.f 0
              have zT1 : u4.frozen? ⟨gT, 1, none⟩ = false := bT.f 1
              have kzT := bT.lt
              have rwT0 : u4.cell? ⟨gT, 0, none⟩ = some (.int .i64 T.1) := bT.cell 0 _ rfl
              have rwT1 : u4.cell? ⟨gT, 1, none⟩ = some (.int .i64 T.2.1) := bT.cell 1 _ rfl
              replace bP := bP.far2 (g := gT) (by omega) (.int .i64 D.1) (.int .i64 D.2.1)
              replace bQ := bQ.far2 (g := gT) (by omega) (.int .i64 D.1) (.int .i64 D.2.1)
              replace bGx := bGx.far2 (g := gT) (by omega) (.int .i64 D.1) (.int .i64 D.2.1)
              replace bT := bT.set2 (.int .i64 D.1) (.int .i64 D.2.1)
              replace bN := bN.far2 (g := gT) (by omega) (.int .i64 D.1) (.int .i64 D.2.1)
              replace hB := below2 hB (g := gT) (by omega) (.int .i64 D.1) (.int .i64 D.2.1)
              have cN0 : ((u4.setCell ⟨gT, 0, none⟩ (.int .i64 D.1)).setCell ⟨gT, 1, none⟩ (.int .i64 D.2.1)).cell? ⟨gN, 0, none⟩ = some (.int .i64 N.1) := bN.cell 0 _ rfl
              have cN1 : ((u4.setCell ⟨gT, 0, none⟩ (.int .i64 D.1)).setCell ⟨gT, 1, none⟩ (.int .i64 D.2.1)).cell? ⟨gN, 1, none⟩ = some (.int .i64 N.2.1) := bN.cell 1 _ rfl
              have kN := bN.lt
              go_wp2_with fail
              go_at_call 19
              refine (h5 _).mono ?_
              rintro r u5 ⟨rfl, hb⟩
              clear zT0 rwT0 zT1 rwT1 kzT
              replace bP := bP.keep hb
              replace bQ := bQ.keep hb
              replace bGx := bGx.keep hb
              replace bT := bT.keep hb
              replace bN := bN.keep hb
              replace hB := hB.trans (hb.mono (by have := hB.size; omega))
              clear hb cN0 cN1 kN
              have lP := bP.lt
              have lQ := bQ.lt
              have lGx := bGx.lt
              have lT := bT.lt
              have lN := bN.lt
              have hsz : n ≤ u5.heap.size := by have := hB.size; omega
              have bR := Bn.new u5 #[.int .i64 R.1, .int .i64 R.2.1] 23
              replace bP := bP.alloc (.cells #[.int .i64 R.1, .int .i64 R.2.1] 23)
              replace bQ := bQ.alloc (.cells #[.int .i64 R.1, .int .i64 R.2.1] 23)
              replace bGx := bGx.alloc (.cells #[.int .i64 R.1, .int .i64 R.2.1] 23)
              replace bT := bT.alloc (.cells #[.int .i64 R.1, .int .i64 R.2.1] 23)
              replace bN := bN.alloc (.cells #[.int .i64 R.1, .int .i64 R.2.1] 23)
              replace hB := hB.alloc hsz (.cells #[.int .i64 R.1, .int .i64 R.2.1] 23)
              go_upto_region 14 with fail
              generalize (u5.alloc (.cells #[.int .i64 R.1, .int .i64 R.2.1] 23)) = v3 at *
              generalize u5.heap.size = gR at *
              clear hsz
              go_cut [8, 10, 13, 89] from 32 to 169 (fun v8 v10 v13 vt wx => v8 = .int .i64 N.2.2 ∧ BoolIf vt (N.2.2 = 0 ∧ D.2.2 = 0 ∧ R.2.2 = 0) ∧ wx = v3)
              case first =>
                by_cases x0 : N.2.2 = 0
                · rw [x0]
                  by_cases x1 : D.2.2 = 0
                  · rw [x1]
                    by_cases x2 : R.2.2 = 0
                    · rw [x2]
                      go_wp2_with fail
                      go_meet
                      exact ⟨by rw [x0], ⟨true, rfl, fun _ => ⟨x0, x1, x2⟩⟩, rfl⟩
                    · have y2 : (R.2.2 == 0) = false := beq_eq_false_iff_ne.2 x2
                      go_wp2_with fail
                      go_meet
                      exact ⟨by rw [x0], ⟨false, rfl, fun h => by cases h⟩, rfl⟩
                  · have y1 : (D.2.2 == 0) = false := beq_eq_false_iff_ne.2 x1
                    go_wp2_with fail
                    go_meet
                    exact ⟨by rw [x0], ⟨false, rfl, fun h => by cases h⟩, rfl⟩
                · have y0 : (N.2.2 == 0) = false := beq_eq_false_iff_ne.2 x0
                  go_wp2_with fail
                  go_meet
                  exact ⟨rfl, ⟨false, rfl, fun h => by cases h⟩, rfl⟩
              case rest =>
                as_aux_lemma =>
                  obtain ⟨rfl, ⟨b, rfl, hbb⟩, rfl⟩ := hcut
                  replace hbb := Lib.hid hbb
                  clear h3 h4 h5
                  have sP_ : p < wc.heap.size := bP.lt
                  have sQ_ : q < wc.heap.size := bQ.lt
                  have sGx_ : g < wc.heap.size := bGx.lt
                  have sT_ : gT < wc.heap.size := bT.lt
                  have sN_ : gN < wc.heap.size := bN.lt
                  have sR_ : gR < wc.heap.size := bR.lt
                  go_upto_if 89 with fail
                  go_cut [14, 15] from 32 to 169 (fun v14 v15 wx => Below n w wx ∧ Bn wx p #[.int .i64 e0, .int .i64 e1, .int .i64 e2, .int .i64 e3, .int .i64 e4, .int .i64 e5] 25 ∧ Bn wx q #[.int .i64 f0, .int .i64 f1, .int .i64 f2, .int .i64 f3, .int .i64 f4, .int .i64 f5] 25 ∧ Bn wx g cs 40 ∧ Bn wx gN #[.int .i64 N.1, .int .i64 N.2.1] 23)
                  case first =>
                    cases b
                    · go_wp2_with fail
                      go_meet
                      exact ⟨hB, bP, bQ, bGx, bN⟩
                    · obtain ⟨x0, x1, x2⟩ := hbb.out rfl
                      have f := F2.out x0 x1 x2
                      rw [f] at h6
                      clear f x0 x1 x2 hbb
                      have cR0 : wc.cell? ⟨gR, 0, none⟩ = some (.int .i64 R.1) := bR.cell 0 _ rfl
                      have cR1 : wc.cell? ⟨gR, 1, none⟩ = some (.int .i64 R.2.1) := bR.cell 1 _ rfl
                      have kR := bR.lt
                      have cT0 : wc.cell? ⟨gT, 0, none⟩ = some (.int .i64 D.1) := bT.cell 0 _ rfl
                      have cT1 : wc.cell? ⟨gT, 1, none⟩ = some (.int .i64 D.2.1) := bT.cell 1 _ rfl
                      have kT := bT.lt
                      go_wp2_with fail
                      go_at_call 20
                      refine (h6 _).mono ?_
                      rintro r u6 ⟨rfl, hb⟩
                      replace bP := bP.keep hb
                      replace bQ := bQ.keep hb
                      replace bGx := bGx.keep hb
                      replace bT := bT.keep hb
                      replace bN := bN.keep hb
                      replace bR := bR.keep hb
                      replace hB := hB.trans (hb.mono (by have := hB.size; omega))
                      clear hb cR0 cR1 kR cT0 cT1 kT
                      have lP := bP.lt
                      have lQ := bQ.lt
                      have lGx := bGx.lt
                      have lT := bT.lt
                      have lN := bN.lt
                      have lR := bR.lt
                      have hsz : n ≤ u6.heap.size := by have := hB.size; omega
                      have bJ := Bn.new u6 #[.int .i64 J.1, .int .i64 J.2.1] 23
                      replace bP := bP.alloc (.cells #[.int .i64 J.1, .int .i64 J.2.1] 23)
                      replace bQ := bQ.alloc (.cells #[.int .i64 J.1, .int .i64 J.2.1] 23)
                      replace bGx := bGx.alloc (.cells #[.int .i64 J.1, .int .i64 J.2.1] 23)
                      replace bT := bT.alloc (.cells #[.int .i64 J.1, .int .i64 J.2.1] 23)
                      replace bN := bN.alloc (.cells #[.int .i64 J.1, .int .i64 J.2.1] 23)
                      replace bR := bR.alloc (.cells #[.int .i64 J.1, .int .i64 J.2.1] 23)
                      replace hB := hB.alloc hsz (.cells #[.int .i64 J.1, .int .i64 J.2.1] 23)
                      go_wp2_with fail
                      go_meet
                      exact ⟨hB, bP, bQ, bGx, bN⟩
                  case rest =>
                    as_aux_lemma =>
                      clear hB hbb h6 F2 bP bQ bGx bT bN bR
                      obtain ⟨hB, bP, bQ, bGx, bN⟩ := hcut
                      have cP0 : wc.cell? ⟨p, 0, none⟩ = some (.int .i64 e0) := bP.cell 0 _ rfl
                      have cP1 : wc.cell? ⟨p, 1, none⟩ = some (.int .i64 e1) := bP.cell 1 _ rfl
                      have cP2 : wc.cell? ⟨p, 2, none⟩ = some (.int .i64 e2) := bP.cell 2 _ rfl
                      have cP3 : wc.cell? ⟨p, 3, none⟩ = some (.int .i64 e3) := bP.cell 3 _ rfl
                      have cP4 : wc.cell? ⟨p, 4, none⟩ = some (.int .i64 e4) := bP.cell 4 _ rfl
                      have cP5 : wc.cell? ⟨p, 5, none⟩ = some (.int .i64 e5) := bP.cell 5 _ rfl
                      have kP := bP.lt
                      go_wp2_with fail
                      go_at_call 14
                      refine (h7 _).mono ?_
                      rintro r u7 ⟨rfl, hb⟩
                      replace bP := bP.keep hb
                      replace bQ := bQ.keep hb
                      replace bGx := bGx.keep hb
                      replace bN := bN.keep hb
                      replace hB := hB.trans (hb.mono (by have := hB.size; omega))
                      clear hb cP0 cP1 cP2 cP3 cP4 cP5 kP
                      have lP := bP.lt
                      have lQ := bQ.lt
                      have lGx := bGx.lt
                      have lN := bN.lt
                      have hsz : n ≤ u7.heap.size := by have := hB.size; omega
                      have bU := Bn.new u7 #[.int .i64 U.x0, .int .i64 U.x1, .int .i64 U.y0, .int .i64 U.y1, .int .i64 U.z0, .int .i64 U.z1] 25
                      replace bP := bP.alloc (.cells #[.int .i64 U.x0, .int .i64 U.x1, .int .i64 U.y0, .int .i64 U.y1, .int .i64 U.z0, .int .i64 U.z1] 25)
                      replace bQ := bQ.alloc (.cells #[.int .i64 U.x0, .int .i64 U.x1, .int .i64 U.y0, .int .i64 U.y1, .int .i64 U.z0, .int .i64 U.z1] 25)
                      replace bGx := bGx.alloc (.cells #[.int .i64 U.x0, .int .i64 U.x1, .int .i64 U.y0, .int .i64 U.y1, .int .i64 U.z0, .int .i64 U.z1] 25)
                      replace bN := bN.alloc (.cells #[.int .i64 U.x0, .int .i64 U.x1, .int .i64 U.y0, .int .i64 U.y1, .int .i64 U.z0, .int .i64 U.z1] 25)
                      replace hB := hB.alloc hsz (.cells #[.int .i64 U.x0, .int .i64 U.x1, .int .i64 U.y0, .int .i64 U.y1, .int .i64 U.z0, .int .i64 U.z1] 25)
                      have cU0 : (u7.alloc (.cells #[.int .i64 U.x0, .int .i64 U.x1, .int .i64 U.y0, .int .i64 U.y1, .int .i64 U.z0, .int .i64 U.z1] 25)).cell? ⟨u7.heap.size, 0, none⟩ = some (.int .i64 U.x0) := bU.cell 0 _ rfl
                      have cU1 : (u7.alloc (.cells #[.int .i64 U.x0, .int .i64 U.x1, .int .i64 U.y0, .int .i64 U.y1, .int .i64 U.z0, .int .i64 U.z1] 25)).cell? ⟨u7.heap.size, 1, none⟩ = some (.int .i64 U.x1) := bU.cell 1 _ rfl
                      have cU2 : (u7.alloc (.cells #[.int .i64 U.x0, .int .i64 U.x1, .int .i64 U.y0, .int .i64 U.y1, .int .i64 U.z0, .int .i64 U.z1] 25)).cell? ⟨u7.heap.size, 2, none⟩ = some (.int .i64 U.y0) := bU.cell 2 _ rfl
                      have cU3 : (u7.alloc (.cells #[.int .i64 U.x0, .int .i64 U.x1, .int .i64 U.y0, .int .i64 U.y1, .int .i64 U.z0, .int .i64 U.z1] 25)).cell? ⟨u7.heap.size, 3, none⟩ = some (.int .i64 U.y1) := bU.cell 3 _ rfl
                      have cU4 : (u7.alloc (.cells #[.int .i64 U.x0, .int .i64 U.x1, .int .i64 U.y0, .int .i64 U.y1, .int .i64 U.z0, .int .i64 U.z1] 25)).cell? ⟨u7.heap.size, 4, none⟩ = some (.int .i64 U.z0) := bU.cell 4 _ rfl
                      have cU5 : (u7.alloc (.cells #[.int .i64 U.x0, .int .i64 U.x1, .int .i64 U.y0, .int .i64 U.y1, .int .i64 U.z0, .int .i64 U.z1] 25)).cell? ⟨u7.heap.size, 5, none⟩ = some (.int .i64 U.z1) := bU.cell 5 _ rfl
                      have kU := bU.lt
                      go_wp2_with fail
                      go_at_call 17
                      refine (h8 _).mono ?_
                      rintro r u8 ⟨rfl, hb⟩
                      replace bP := bP.keep hb
                      replace bQ := bQ.keep hb
                      replace bGx := bGx.keep hb
                      replace bN := bN.keep hb
                      replace bU := bU.keep hb
                      replace hB := hB.trans (hb.mono (by have := hB.size; omega))
                      clear hb cU0 cU1 cU2 cU3 cU4 cU5 kU
                      generalize u7.heap.size = gU at *
                      clear hsz
                      have lP := bP.lt
                      have lQ := bQ.lt
                      have lGx := bGx.lt
                      have lN := bN.lt
                      have lU := bU.lt
                      have hsz : n ≤ u8.heap.size := by have := hB.size; omega
                      have bO := Bn.new u8 #[.int .i64 O.1, .int .i64 O.2.1] 23
                      replace bP := bP.alloc (.cells #[.int .i64 O.1, .int .i64 O.2.1] 23)
                      replace bQ := bQ.alloc (.cells #[.int .i64 O.1, .int .i64 O.2.1] 23)
                      replace bGx := bGx.alloc (.cells #[.int .i64 O.1, .int .i64 O.2.1] 23)
                      replace bN := bN.alloc (.cells #[.int .i64 O.1, .int .i64 O.2.1] 23)
                      replace bU := bU.alloc (.cells #[.int .i64 O.1, .int .i64 O.2.1] 23)
                      replace hB := hB.alloc hsz (.cells #[.int .i64 O.1, .int .i64 O.2.1] 23)
                      go_upto_region 20 with fail
                      generalize (u8.alloc (.cells #[.int .i64 O.1, .int .i64 O.2.1] 23)) = v4 at *
                      generalize u8.heap.size = gO at *
                      clear hsz
                      go_cut [8, 10, 13, 127] from 32 to 169 (fun v8 v10 v13 v127 wx => v8 = .int .i64 N.2.2 ∧ v127 = .bool false ∧ wx = v4)
                      case first =>
                        have cO0 : v4.cell? ⟨gO, 0, none⟩ = some (.int .i64 O.1) := bO.cell 0 _ rfl
                        have cO1 : v4.cell? ⟨gO, 1, none⟩ = some (.int .i64 O.2.1) := bO.cell 1 _ rfl
                        have kO := bO.lt
                        by_cases x0 : N.2.2 = 0
                        · rw [x0]
                          by_cases x1 : U.e = 0
                          · rw [x1]
                            by_cases x2 : O.2.2 = 0
                            · rw [x2]
                              obtain ⟨f0, f1⟩ := F3.out x0 x1 x2
                              go_wp2_with fail
                              go_meet
                              exact ⟨by first | rfl | rw [x0], by first | rfl | (simp; omega), rfl⟩
                            · have y2 : (O.2.2 == 0) = false := beq_eq_false_iff_ne.2 x2
                              go_wp2_with fail
                              go_meet
                              exact ⟨by first | rfl | rw [x0], by first | rfl | (simp; omega), rfl⟩
                          · have y1 : (U.e == 0) = false := beq_eq_false_iff_ne.2 x1
                            go_wp2_with fail
                            go_meet
                            exact ⟨by first | rfl | rw [x0], by first | rfl | (simp; omega), rfl⟩
                        · have y0 : (N.2.2 == 0) = false := beq_eq_false_iff_ne.2 x0
                          go_wp2_with fail
                          go_meet
                          exact ⟨by first | rfl | rw [x0], by first | rfl | (simp; omega), rfl⟩
                      case rest =>
                        as_aux_lemma =>
                          obtain ⟨rfl, rfl, rfl⟩ := hcut
                          clear h7 h8 F3 bU bO
                          have cQ0 : wc.cell? ⟨q, 0, none⟩ = some (.int .i64 f0) := bQ.cell 0 _ rfl
                          have cQ1 : wc.cell? ⟨q, 1, none⟩ = some (.int .i64 f1) := bQ.cell 1 _ rfl
                          have cQ2 : wc.cell? ⟨q, 2, none⟩ = some (.int .i64 f2) := bQ.cell 2 _ rfl
                          have cQ3 : wc.cell? ⟨q, 3, none⟩ = some (.int .i64 f3) := bQ.cell 3 _ rfl
                          have cQ4 : wc.cell? ⟨q, 4, none⟩ = some (.int .i64 f4) := bQ.cell 4 _ rfl
                          have cQ5 : wc.cell? ⟨q, 5, none⟩ = some (.int .i64 f5) := bQ.cell 5 _ rfl
                          have kQ := bQ.lt
                          go_wp2_with fail
                          go_at_call 17
                          refine (h9 _).mono ?_
                          rintro r u9 ⟨rfl, hb⟩
                          replace bP := bP.keep hb
                          replace bQ := bQ.keep hb
                          replace bGx := bGx.keep hb
                          replace bN := bN.keep hb
                          replace hB := hB.trans (hb.mono (by have := hB.size; omega))
                          clear hb cQ0 cQ1 cQ2 cQ3 cQ4 cQ5 kQ
                          have lP := bP.lt
                          have lQ := bQ.lt
                          have lGx := bGx.lt
                          have lN := bN.lt
                          have hsz : n ≤ u9.heap.size := by have := hB.size; omega
                          have bM := Bn.new u9 #[.int .i64 M.1, .int .i64 M.2.1] 23
                          replace bP := bP.alloc (.cells #[.int .i64 M.1, .int .i64 M.2.1] 23)
                          replace bQ := bQ.alloc (.cells #[.int .i64 M.1, .int .i64 M.2.1] 23)
                          replace bGx := bGx.alloc (.cells #[.int .i64 M.1, .int .i64 M.2.1] 23)
                          replace bN := bN.alloc (.cells #[.int .i64 M.1, .int .i64 M.2.1] 23)
                          replace hB := hB.alloc hsz (.cells #[.int .i64 M.1, .int .i64 M.2.1] 23)
                          have cP0 : (u9.alloc (.cells #[.int .i64 M.1, .int .i64 M.2.1] 23)).cell? ⟨p, 0, none⟩ = some (.int .i64 e0) := bP.cell 0 _ rfl
                          have cP1 : (u9.alloc (.cells #[.int .i64 M.1, .int .i64 M.2.1] 23)).cell? ⟨p, 1, none⟩ = some (.int .i64 e1) := bP.cell 1 _ rfl
                          have cP2 : (u9.alloc (.cells #[.int .i64 M.1, .int .i64 M.2.1] 23)).cell? ⟨p, 2, none⟩ = some (.int .i64 e2) := bP.cell 2 _ rfl
                          have cP3 : (u9.alloc (.cells #[.int .i64 M.1, .int .i64 M.2.1] 23)).cell? ⟨p, 3, none⟩ = some (.int .i64 e3) := bP.cell 3 _ rfl
                          have cP4 : (u9.alloc (.cells #[.int .i64 M.1, .int .i64 M.2.1] 23)).cell? ⟨p, 4, none⟩ = some (.int .i64 e4) := bP.cell 4 _ rfl
                          have cP5 : (u9.alloc (.cells #[.int .i64 M.1, .int .i64 M.2.1] 23)).cell? ⟨p, 5, none⟩ = some (.int .i64 e5) := bP.cell 5 _ rfl
                          have kP := bP.lt
                          have cQ0 : (u9.alloc (.cells #[.int .i64 M.1, .int .i64 M.2.1] 23)).cell? ⟨q, 0, none⟩ = some (.int .i64 f0) := bQ.cell 0 _ rfl
                          have cQ1 : (u9.alloc (.cells #[.int .i64 M.1, .int .i64 M.2.1] 23)).cell? ⟨q, 1, none⟩ = some (.int .i64 f1) := bQ.cell 1 _ rfl
                          have cQ2 : (u9.alloc (.cells #[.int .i64 M.1, .int .i64 M.2.1] 23)).cell? ⟨q, 2, none⟩ = some (.int .i64 f2) := bQ.cell 2 _ rfl
                          have cQ3 : (u9.alloc (.cells #[.int .i64 M.1, .int .i64 M.2.1] 23)).cell? ⟨q, 3, none⟩ = some (.int .i64 f3) := bQ.cell 3 _ rfl
                          have cQ4 : (u9.alloc (.cells #[.int .i64 M.1, .int .i64 M.2.1] 23)).cell? ⟨q, 4, none⟩ = some (.int .i64 f4) := bQ.cell 4 _ rfl
                          have cQ5 : (u9.alloc (.cells #[.int .i64 M.1, .int .i64 M.2.1] 23)).cell? ⟨q, 5, none⟩ = some (.int .i64 f5) := bQ.cell 5 _ rfl
                          have kQ := bQ.lt
                          go_wp2_with fail
                          go_at_call 10
                          refine (h10 _).mono ?_
                          rintro r u10 ⟨rfl, hb⟩
                          replace bP := bP.keep hb
                          replace bQ := bQ.keep hb
                          replace bGx := bGx.keep hb
                          replace bN := bN.keep hb
                          replace bM := bM.keep hb
                          replace hB := hB.trans (hb.mono (by have := hB.size; omega))
                          clear hb cP0 cP1 cP2 cP3 cP4 cP5 kP cQ0 cQ1 cQ2 cQ3 cQ4 cQ5 kQ
                          generalize u9.heap.size = gM at *
                          clear hsz
                          have lP := bP.lt
                          have lQ := bQ.lt
                          have lGx := bGx.lt
                          have lN := bN.lt
                          have lM := bM.lt
                          have hsz : n ≤ u10.heap.size := by have := hB.size; omega
                          have bS := Bn.new u10 #[.int .i64 S.x0, .int .i64 S.x1, .int .i64 S.y0, .int .i64 S.y1, .int .i64 S.z0, .int .i64 S.z1] 25
                          replace bP := bP.alloc (.cells #[.int .i64 S.x0, .int .i64 S.x1, .int .i64 S.y0, .int .i64 S.y1, .int .i64 S.z0, .int .i64 S.z1] 25)
                          replace bQ := bQ.alloc (.cells #[.int .i64 S.x0, .int .i64 S.x1, .int .i64 S.y0, .int .i64 S.y1, .int .i64 S.z0, .int .i64 S.z1] 25)
                          replace bGx := bGx.alloc (.cells #[.int .i64 S.x0, .int .i64 S.x1, .int .i64 S.y0, .int .i64 S.y1, .int .i64 S.z0, .int .i64 S.z1] 25)
                          replace bN := bN.alloc (.cells #[.int .i64 S.x0, .int .i64 S.x1, .int .i64 S.y0, .int .i64 S.y1, .int .i64 S.z0, .int .i64 S.z1] 25)
                          replace bM := bM.alloc (.cells #[.int .i64 S.x0, .int .i64 S.x1, .int .i64 S.y0, .int .i64 S.y1, .int .i64 S.z0, .int .i64 S.z1] 25)
                          replace hB := hB.alloc hsz (.cells #[.int .i64 S.x0, .int .i64 S.x1, .int .i64 S.y0, .int .i64 S.y1, .int .i64 S.z0, .int .i64 S.z1] 25)
                          have cS0 : (u10.alloc (.cells #[.int .i64 S.x0, .int .i64 S.x1, .int .i64 S.y0, .int .i64 S.y1, .int .i64 S.z0, .int .i64 S.z1] 25)).cell? ⟨u10.heap.size, 0, none⟩ = some (.int .i64 S.x0) := bS.cell 0 _ rfl
                          have cS1 : (u10.alloc (.cells #[.int .i64 S.x0, .int .i64 S.x1, .int .i64 S.y0, .int .i64 S.y1, .int .i64 S.z0, .int .i64 S.z1] 25)).cell? ⟨u10.heap.size, 1, none⟩ = some (.int .i64 S.x1) := bS.cell 1 _ rfl
                          have cS2 : (u10.alloc (.cells #[.int .i64 S.x0, .int .i64 S.x1, .int .i64 S.y0, .int .i64 S.y1, .int .i64 S.z0, .int .i64 S.z1] 25)).cell? ⟨u10.heap.size, 2, none⟩ = some (.int .i64 S.y0) := bS.cell 2 _ rfl
                          have cS3 : (u10.alloc (.cells #[.int .i64 S.x0, .int .i64 S.x1, .int .i64 S.y0, .int .i64 S.y1, .int .i64 S.z0, .int .i64 S.z1] 25)).cell? ⟨u10.heap.size, 3, none⟩ = some (.int .i64 S.y1) := bS.cell 3 _ rfl
                          have cS4 : (u10.alloc (.cells #[.int .i64 S.x0, .int .i64 S.x1, .int .i64 S.y0, .int .i64 S.y1, .int .i64 S.z0, .int .i64 S.z1] 25)).cell? ⟨u10.heap.size, 4, none⟩ = some (.int .i64 S.z0) := bS.cell 4 _ rfl
                          have cS5 : (u10.alloc (.cells #[.int .i64 S.x0, .int .i64 S.x1, .int .i64 S.y0, .int .i64 S.y1, .int .i64 S.z0, .int .i64 S.z1] 25)).cell? ⟨u10.heap.size, 5, none⟩ = some (.int .i64 S.z1) := bS.cell 5 _ rfl
                          have kS := bS.lt
                          go_wp2_with fail
                          go_at_call 17
                          refine (h11 _).mono ?_
                          rintro r u11 ⟨rfl, hb⟩
                          replace bP := bP.keep hb
                          replace bQ := bQ.keep hb
                          replace bGx := bGx.keep hb
                          replace bN := bN.keep hb
                          replace bM := bM.keep hb
                          replace bS := bS.keep hb
                          replace hB := hB.trans (hb.mono (by have := hB.size; omega))
                          clear hb cS0 cS1 cS2 cS3 cS4 cS5 kS
                          generalize u10.heap.size = gS at *
                          clear hsz
                          have lP := bP.lt
                          have lQ := bQ.lt
                          have lGx := bGx.lt
                          have lN := bN.lt
                          have lM := bM.lt
                          have lS := bS.lt
                          have hsz : n ≤ u11.heap.size := by have := hB.size; omega
                          have bL := Bn.new u11 #[.int .i64 L.1, .int .i64 L.2.1] 23
                          replace bP := bP.alloc (.cells #[.int .i64 L.1, .int .i64 L.2.1] 23)
                          replace bQ := bQ.alloc (.cells #[.int .i64 L.1, .int .i64 L.2.1] 23)
                          replace bGx := bGx.alloc (.cells #[.int .i64 L.1, .int .i64 L.2.1] 23)
                          replace bN := bN.alloc (.cells #[.int .i64 L.1, .int .i64 L.2.1] 23)
                          replace bM := bM.alloc (.cells #[.int .i64 L.1, .int .i64 L.2.1] 23)
                          replace bS := bS.alloc (.cells #[.int .i64 L.1, .int .i64 L.2.1] 23)
                          replace hB := hB.alloc hsz (.cells #[.int .i64 L.1, .int .i64 L.2.1] 23)
                          obtain ⟨B3, B4⟩ := B1
                          obtain ⟨B5, B6⟩ := B2
                          go_upto_region 25 with fail
                          generalize (u11.alloc (.cells #[.int .i64 L.1, .int .i64 L.2.1] 23)) = v5 at *
                          generalize u11.heap.size = gL at *
                          clear hsz
                          go_cut [8, 10, 13, 21, 167] from 32 to 169 (fun v8 v10 v13 v21 v167 wx => v167 = .bool false ∧ wx = v5)
                          case first =>
                            have cL0 : v5.cell? ⟨gL, 0, none⟩ = some (.int .i64 L.1) := bL.cell 0 _ rfl
                            have cL1 : v5.cell? ⟨gL, 1, none⟩ = some (.int .i64 L.2.1) := bL.cell 1 _ rfl
                            have kL := bL.lt
                            have cN0 : v5.cell? ⟨gN, 0, none⟩ = some (.int .i64 N.1) := bN.cell 0 _ rfl
                            have cN1 : v5.cell? ⟨gN, 1, none⟩ = some (.int .i64 N.2.1) := bN.cell 1 _ rfl
                            have kN := bN.lt
                            have cM0 : v5.cell? ⟨gM, 0, none⟩ = some (.int .i64 M.1) := bM.cell 0 _ rfl
                            have cM1 : v5.cell? ⟨gM, 1, none⟩ = some (.int .i64 M.2.1) := bM.cell 1 _ rfl
                            have kM := bM.lt
                            by_cases x0 : N.2.2 = 0
                            · rw [x0]
                              by_cases x1 : M.2.2 = 0
                              · rw [x1]
                                by_cases x2 : S.e = 0
                                · rw [x2]
                                  by_cases x3 : L.2.2 = 0
                                  · rw [x3]
                                    have f0 := F4.out x0 x1 x2 x3
                                    go_wp2_with fail
                                    go_meet
                                    exact ⟨by first | rfl | (simp; omega), rfl⟩
                                  · have y3 : (L.2.2 == 0) = false := beq_eq_false_iff_ne.2 x3
                                    go_wp2_with fail
                                    go_meet
                                    exact ⟨by first | rfl | (simp; omega), rfl⟩
                                · have y2 : (S.e == 0) = false := beq_eq_false_iff_ne.2 x2
                                  go_wp2_with fail
                                  go_meet
                                  exact ⟨by first | rfl | (simp; omega), rfl⟩
                              · have y1 : (M.2.2 == 0) = false := beq_eq_false_iff_ne.2 x1
                                go_wp2_with fail
                                go_meet
                                exact ⟨by first | rfl | (simp; omega), rfl⟩
                            · have y0 : (N.2.2 == 0) = false := beq_eq_false_iff_ne.2 x0
                              go_wp2_with fail
                              go_meet
                              exact ⟨by first | rfl | (simp; omega), rfl⟩
                          case rest =>
                            as_aux_lemma =>
                              obtain ⟨rfl, rfl⟩ := hcut
                              go_wp2_with fail
                              go_roundw
                              case rel => exact ⟨k + 1, by omega, by omega, by go_num, hB, bGx⟩
                              case measure => simp [intOf]; omega
    · go_wp2
      go_ret
      subst hn
      exact ⟨rfl, hB⟩
end Go.Proofs.Ytnfapdmbkpkkdaa
