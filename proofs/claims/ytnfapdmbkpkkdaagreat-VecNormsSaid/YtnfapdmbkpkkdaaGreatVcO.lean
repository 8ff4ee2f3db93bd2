/-
  Opening arguments of the statements about vectors.
-/
import Derived.Test.YtnfapdmbkpkkdaaGreatRows
import Derived.WalkKit
import Derived.ProofKit
import Derived.OpenShut
import Derived.Deep.Strs
import Derived.Laws.IdiomArrays
import Derived.Lib.SmallJoins
import Derived.Stop.Joined
import Derived.SevenTiedAt
namespace Go.Proofs.YtnfapdmbkpkkdaaGreat
open Go.ChangeShapes Go.WideShapes Go.ChangeAt Go.WideMaps Go.WideElems Go.RowKit Go.Joins

section Arrays
variable {H : Type} {enc : TypeId × Value → H} {P : Program} {w : World} {base : Nat} {spare : Nat → Bool} {held : Bool}
theorem trod_arr3 {t e : TypeId} {fuel : Nat} {c0 c1 c2 c3 c4 c5 : Value} {x : DataW H × List MemPlace} (ht : P.underlying t = some (.array 3 e)) (hce : P.cellsOf e = 2)
    (h : DataW.trod enc P w base spare held fuel t [c0, c1, c2, c3, c4, c5] = some x) :
    ∃ y0 y1 y2 n, x = (.agg [y0.1, y1.1, y2.1], y0.2 ++ (y1.2 ++ y2.2)) ∧ DataW.trod enc P w base spare held n e [c0, c1] = some y0 ∧ DataW.trod enc P w base spare held n e [c2, c3] = some y1 ∧ DataW.trod enc P w base spare held n e [c4, c5] = some y2 := by
  cases fuel with
  | zero => simp [DataW.trod] at h
  | succ n =>
    unfold DataW.trod at h
    rw [ht] at h
    have r3 : List.range 3 = [0, 1, 2] := rfl
    simp [r3, hce] at h
    obtain ⟨_, h⟩ := h
    cases h0 : DataW.trod enc P w base spare held n e [c0, c1] with
    | none => simp [h0] at h
    | some y0 =>
      cases h1 : DataW.trod enc P w base spare held n e [c2, c3] with
      | none => simp [h0, h1] at h
      | some y1 =>
        cases h2 : DataW.trod enc P w base spare held n e [c4, c5] with
        | none => simp [h0, h1, h2] at h
        | some y2 =>
          simp [h0, h1, h2] at h
          exact ⟨y0, y1, y2, n, h.symm, h0, h1, h2⟩
theorem trod_arr2 {t e : TypeId} {fuel : Nat} {c0 c1 : Value} {x : DataW H × List MemPlace} (ht : P.underlying t = some (.array 2 e)) (hce : P.cellsOf e = 1)
    (h : DataW.trod enc P w base spare held fuel t [c0, c1] = some x) :
    ∃ y0 y1 n, x = (.agg [y0.1, y1.1], y0.2 ++ y1.2) ∧ DataW.trod enc P w base spare held n e [c0] = some y0 ∧ DataW.trod enc P w base spare held n e [c1] = some y1 := by
  cases fuel with
  | zero => simp [DataW.trod] at h
  | succ n =>
    unfold DataW.trod at h
    rw [ht] at h
    have r2 : List.range 2 = [0, 1] := rfl
    simp [r2, hce] at h
    obtain ⟨_, h⟩ := h
    cases h0 : DataW.trod enc P w base spare held n e [c0] with
    | none => simp [h0] at h
    | some y0 =>
      cases h1 : DataW.trod enc P w base spare held n e [c1] with
      | none => simp [h0, h1] at h
      | some y1 =>
        simp [h0, h1] at h
        exact ⟨y0, y1, n, h.symm, h0, h1⟩
end Arrays
theorem Tryz.cellsint : Tryz.prog.cellsOf 3 = 1 := by kernel_rfl
theorem Tryz.cellsuint8 : Tryz.prog.cellsOf 5 = 1 := by kernel_rfl
theorem Tryz.cellsuint32 : Tryz.prog.cellsOf 26 = 1 := by kernel_rfl
theorem Tryz.cellsSpan : Tryz.prog.cellsOf 23 = 2 := by kernel_rfl
theorem Tryz.cellsDraft : Tryz.prog.cellsOf 28 = 3 := by kernel_rfl
theorem i64_of_wf {x : Int} (h : (Lit.int .i64 x).wf = true) : -9223372036854775808 ≤ x ∧ x ≤ 9223372036854775807 := by
  simp [Lit.wf, IntKind.min, IntKind.max, IntKind.signed, IntKind.bits] at h
  omega
theorem u8_of_wf {x : Int} (h : (Lit.int .u8 x).wf = true) : 0 ≤ x ∧ x ≤ 255 := by
  simp [Lit.wf, IntKind.min, IntKind.max, IntKind.signed, IntKind.bits] at h
  omega
theorem u32_of_wf {x : Int} (h : (Lit.int .u32 x).wf = true) : 0 ≤ x ∧ x ≤ 4294967295 := by
  simp [Lit.wf, IntKind.min, IntKind.max, IntKind.signed, IntKind.bits] at h
  omega
theorem Tryz.cellsVec : Tryz.prog.cellsOf 25 = 6 := by kernel_rfl
theorem Tryz.cellsDraft6 : Tryz.prog.cellsOf 30 = 9 := by kernel_rfl
theorem Tryz.cellsTwo6 : Tryz.prog.cellsOf 32 = 30 := by kernel_rfl
theorem array30 {α : Type} {cs : Array α} (h : cs.size = 30) : ∃ c0 c1 c2 c3 c4 c5 c6 c7 c8 c9 c10 c11 c12 c13 c14 c15 c16 c17 c18 c19 c20 c21 c22 c23 c24 c25 c26 c27 c28 c29, cs = #[c0, c1, c2, c3, c4, c5, c6, c7, c8, c9, c10, c11, c12, c13, c14, c15, c16, c17, c18, c19, c20, c21, c22, c23, c24, c25, c26, c27, c28, c29] := by
  obtain ⟨l⟩ := cs
  match l, h with
  | [c0, c1, c2, c3, c4, c5, c6, c7, c8, c9, c10, c11, c12, c13, c14, c15, c16, c17, c18, c19, c20, c21, c22, c23, c24, c25, c26, c27, c28, c29], _ => exact ⟨c0, c1, c2, c3, c4, c5, c6, c7, c8, c9, c10, c11, c12, c13, c14, c15, c16, c17, c18, c19, c20, c21, c22, c23, c24, c25, c26, c27, c28, c29, rfl⟩
theorem trod_span {H : Type} {enc : TypeId × Value → H} {w : World} {base : Nat} {spare : Nat → Bool} {held : Bool} {n : Nat} {c0 c1 : Value} {x : DataW H × List MemPlace} (h : DataW.trod enc Tryz.prog w base spare held n 23 [c0, c1] = some x) :
    ∃ a b : Int, c0 = .int .i64 a ∧ c1 = .int .i64 b ∧ x.2 = [] ∧ (Lit.int .i64 a).wf = true ∧ (Lit.int .i64 b).wf = true := by
  obtain ⟨y0, y1, m, rfl, _, h0, h1⟩ := trod_struct2 Tryz.underlying23 h
  obtain ⟨a, e0, rfl, wa⟩ := DataW.trod_int Tryz.underlying3 (show DataW.trod enc Tryz.prog w base spare held m 3 [c0] = some y0 by simpa [Tryz.cellsint] using h0)
  obtain ⟨b, e1, rfl, wb⟩ := DataW.trod_int Tryz.underlying3 (show DataW.trod enc Tryz.prog w base spare held m 3 [c1] = some y1 by simpa [Tryz.cellsint] using h1)
  simp at e0 e1
  exact ⟨a, b, e0, e1, rfl, wa, wb⟩
theorem trod_draft {H : Type} {enc : TypeId × Value → H} {w : World} {base : Nat} {spare : Nat → Bool} {held : Bool} {n : Nat} {c0 c1 c2 : Value} {x : DataW H × List MemPlace} (h : DataW.trod enc Tryz.prog w base spare held n 28 [c0, c1, c2] = some x) :
    ∃ a b c : Int, c0 = .int .i64 a ∧ c1 = .int .u8 b ∧ c2 = .int .u32 c ∧ x.2 = [] ∧ (Lit.int .i64 a).wf = true ∧ (Lit.int .u8 b).wf = true ∧ (Lit.int .u32 c).wf = true := by
  obtain ⟨y0, y1, y2, m, rfl, _, h0, h1, h2⟩ := Deep.trod_struct3 Tryz.underlying28 h
  obtain ⟨a, e0, rfl, wa⟩ := DataW.trod_int Tryz.underlying3 (show DataW.trod enc Tryz.prog w base spare held m 3 [c0] = some y0 by simpa [Tryz.cellsint] using h0)
  obtain ⟨b, e1, rfl, wb⟩ := DataW.trod_int Tryz.underlying5 (show DataW.trod enc Tryz.prog w base spare held m 5 [c1] = some y1 by simpa [Tryz.cellsuint8] using h1)
  obtain ⟨c, e2, rfl, wc⟩ := DataW.trod_int Tryz.underlying26 (show DataW.trod enc Tryz.prog w base spare held m 26 [c2] = some y2 by simpa [Tryz.cellsuint32] using h2)
  simp at e0 e1 e2
  exact ⟨a, b, c, e0, e1, e2, rfl, wa, wb, wc⟩
theorem trod_vec {H : Type} {enc : TypeId × Value → H} {w : World} {base : Nat} {spare : Nat → Bool} {held : Bool} {n : Nat} {c0 c1 c2 c3 c4 c5 : Value} {x : DataW H × List MemPlace} (h : DataW.trod enc Tryz.prog w base spare held n 25 [c0, c1, c2, c3, c4, c5] = some x) :
    ∃ a b c d e f : Int, c0 = .int .i64 a ∧ c1 = .int .i64 b ∧ c2 = .int .i64 c ∧ c3 = .int .i64 d ∧ c4 = .int .i64 e ∧ c5 = .int .i64 f ∧ x.2 = [] := by
  obtain ⟨y0, y1, y2, m, rfl, h0, h1, h2⟩ := trod_arr3 (show Tryz.prog.underlying 25 = some (.array 3 23) by kernel_rfl) Tryz.cellsSpan h
  obtain ⟨a, b, rfl, rfl, e0, _, _⟩ := trod_span h0
  obtain ⟨c, d, rfl, rfl, e1, _, _⟩ := trod_span h1
  obtain ⟨e, f, rfl, rfl, e2, _, _⟩ := trod_span h2
  exact ⟨a, b, c, d, e, f, rfl, rfl, rfl, rfl, rfl, rfl, by rw [e0, e1, e2]; rfl⟩
theorem trod_draft6 {H : Type} {enc : TypeId × Value → H} {w : World} {base : Nat} {spare : Nat → Bool} {held : Bool} {n : Nat} {c0 c1 c2 c3 c4 c5 c6 c7 c8 : Value} {x : DataW H × List MemPlace} (h : DataW.trod enc Tryz.prog w base spare held n 30 [c0, c1, c2, c3, c4, c5, c6, c7, c8] = some x) :
    ∃ p0 q0 r0 p1 q1 r1 p2 q2 r2 : Int, c0 = .int .i64 p0 ∧ c1 = .int .u8 q0 ∧ c2 = .int .u32 r0 ∧ c3 = .int .i64 p1 ∧ c4 = .int .u8 q1 ∧ c5 = .int .u32 r1 ∧ c6 = .int .i64 p2 ∧ c7 = .int .u8 q2 ∧ c8 = .int .u32 r2 ∧ x.2 = [] ∧ 0 ≤ q0 ∧ q0 ≤ 255 ∧ 0 ≤ r0 ∧ r0 ≤ 4294967295 ∧ 0 ≤ q1 ∧ q1 ≤ 255 ∧ 0 ≤ r1 ∧ r1 ≤ 4294967295 ∧ 0 ≤ q2 ∧ q2 ≤ 255 ∧ 0 ≤ r2 ∧ r2 ≤ 4294967295 := by
  obtain ⟨y0, y1, y2, m, rfl, _, h0, h1, h2⟩ := Deep.trod_struct3 Tryz.underlying30 h
  obtain ⟨p0, q0, r0, rfl, rfl, rfl, e0, _, wq0, wr0⟩ := trod_draft (show DataW.trod enc Tryz.prog w base spare held m 28 [c0, c1, c2] = some y0 by simpa [Tryz.cellsDraft] using h0)
  obtain ⟨p1, q1, r1, rfl, rfl, rfl, e1, _, wq1, wr1⟩ := trod_draft (show DataW.trod enc Tryz.prog w base spare held m 28 [c3, c4, c5] = some y1 by simpa [Tryz.cellsDraft] using h1)
  obtain ⟨p2, q2, r2, rfl, rfl, rfl, e2, _, wq2, wr2⟩ := trod_draft (show DataW.trod enc Tryz.prog w base spare held m 28 [c6, c7, c8] = some y2 by simpa [Tryz.cellsDraft] using h2)
  exact ⟨p0, q0, r0, p1, q1, r1, p2, q2, r2, rfl, rfl, rfl, rfl, rfl, rfl, rfl, rfl, rfl, by rw [e0, e1, e2]; rfl, (u8_of_wf wq0).1, (u8_of_wf wq0).2, (u32_of_wf wr0).1, (u32_of_wf wr0).2, (u8_of_wf wq1).1, (u8_of_wf wq1).2, (u32_of_wf wr1).1, (u32_of_wf wr1).2, (u8_of_wf wq2).1, (u8_of_wf wq2).2, (u32_of_wf wr2).1, (u32_of_wf wr2).2⟩
set_option maxRecDepth 100000 in
theorem open_two6 {H : Type} {enc : TypeId × Value → H} {w : World} {base : Nat} {spare : Nat → Bool} {held : Bool} {r : Reach} {b0 : Nat} {v : Value} {d : DataW H} {p : List MemPlace} (hv : Value.okWide Tryz.prog w r b0 32 v) (h : DataW.Trod enc Tryz.prog w base spare held 32 v d p) :
    ∃ a0 a1 a2 a3 a4 a5 d0 d1 d2 d3 d4 d5 p0 q0 r0 p1 q1 r1 p2 q2 r2 p3 q3 r3 p4 q4 r4 p5 q5 r5 : Int, v = .agg #[.int .i64 a0, .int .i64 a1, .int .i64 a2, .int .i64 a3, .int .i64 a4, .int .i64 a5, .int .i64 d0, .int .i64 d1, .int .i64 d2, .int .i64 d3, .int .i64 d4, .int .i64 d5, .int .i64 p0, .int .u8 q0, .int .u32 r0, .int .i64 p1, .int .u8 q1, .int .u32 r1, .int .i64 p2, .int .u8 q2, .int .u32 r2, .int .i64 p3, .int .u8 q3, .int .u32 r3, .int .i64 p4, .int .u8 q4, .int .u32 r4, .int .i64 p5, .int .u8 q5, .int .u32 r5] ∧ p = [] ∧ 0 ≤ q0 ∧ q0 ≤ 255 ∧ 0 ≤ r0 ∧ r0 ≤ 4294967295 ∧ 0 ≤ q1 ∧ q1 ≤ 255 ∧ 0 ≤ r1 ∧ r1 ≤ 4294967295 ∧ 0 ≤ q2 ∧ q2 ≤ 255 ∧ 0 ≤ r2 ∧ r2 ≤ 4294967295 ∧ 0 ≤ q3 ∧ q3 ≤ 255 ∧ 0 ≤ r3 ∧ r3 ≤ 4294967295 ∧ 0 ≤ q4 ∧ q4 ≤ 255 ∧ 0 ≤ r4 ∧ r4 ≤ 4294967295 ∧ 0 ≤ q5 ∧ q5 ≤ 255 ∧ 0 ≤ r5 ∧ r5 ≤ 4294967295 := by
  obtain ⟨cs, rfl, hsz⟩ := okWide_struct Tryz.underlying32 hv
  obtain ⟨c0, c1, c2, c3, c4, c5, c6, c7, c8, c9, c10, c11, c12, c13, c14, c15, c16, c17, c18, c19, c20, c21, c22, c23, c24, c25, c26, c27, c28, c29, rfl⟩ := array30 (hsz.trans Tryz.cellsTwo6)
  obtain ⟨fuel, hf⟩ := h
  obtain ⟨y0, y1, y2, y3, n, hx, _, h0, h1, h2, h3⟩ := trod_struct4 Tryz.underlying32 hf
  obtain ⟨a0, a1, a2, a3, a4, a5, rfl, rfl, rfl, rfl, rfl, rfl, e0⟩ := trod_vec (show DataW.trod enc Tryz.prog w base spare held n 25 [c0, c1, c2, c3, c4, c5] = some y0 by simpa [Value.cells, Tryz.cellsVec] using h0)
  obtain ⟨d0, d1, d2, d3, d4, d5, rfl, rfl, rfl, rfl, rfl, rfl, e1⟩ := trod_vec (show DataW.trod enc Tryz.prog w base spare held n 25 [c6, c7, c8, c9, c10, c11] = some y1 by simpa [Value.cells, Tryz.cellsVec] using h1)
  obtain ⟨p0, q0, r0, p1, q1, r1, p2, q2, r2, rfl, rfl, rfl, rfl, rfl, rfl, rfl, rfl, rfl, e2, u0, v0, s0, t0, u1, v1, s1, t1, u2, v2, s2, t2⟩ := trod_draft6 (show DataW.trod enc Tryz.prog w base spare held n 30 [c12, c13, c14, c15, c16, c17, c18, c19, c20] = some y2 by simpa [Value.cells, Tryz.cellsDraft6] using h2)
  obtain ⟨p3, q3, r3, p4, q4, r4, p5, q5, r5, rfl, rfl, rfl, rfl, rfl, rfl, rfl, rfl, rfl, e3, u3, v3, s3, t3, u4, v4, s4, t4, u5, v5, s5, t5⟩ := trod_draft6 (show DataW.trod enc Tryz.prog w base spare held n 30 [c21, c22, c23, c24, c25, c26, c27, c28, c29] = some y3 by simpa [Value.cells, Tryz.cellsDraft6] using h3)
  simp only [Prod.mk.injEq] at hx
  exact ⟨a0, a1, a2, a3, a4, a5, d0, d1, d2, d3, d4, d5, p0, q0, r0, p1, q1, r1, p2, q2, r2, p3, q3, r3, p4, q4, r4, p5, q5, r5, rfl, by rw [hx.2, e0, e1, e2, e3]; rfl, u0, v0, s0, t0, u1, v1, s1, t1, u2, v2, s2, t2, u3, v3, s3, t3, u4, v4, s4, t4, u5, v5, s5, t5⟩
theorem okWide_array {P : Program} {w : World} {r : Reach} {base n : Nat} {t e : TypeId} {v : Value} (ht : P.underlying t = some (.array n e)) (h : Value.okWide P w r base t v) : ∃ cs, v = .agg cs ∧ cs.size = P.cellsOf t := by
  simp only [Value.okWide, ht] at h
  obtain ⟨cs, h1, h2, _⟩ := h
  exact ⟨cs, h1, h2⟩
theorem Tryz.cellsuint64 : Tryz.prog.cellsOf 99 = 1 := by kernel_rfl
theorem u64_of_wf {x : Int} (h : (Lit.int .u64 x).wf = true) : 0 ≤ x ∧ x ≤ 18446744073709551615 := by
  simp [Lit.wf, IntKind.min, IntKind.max, IntKind.signed, IntKind.bits] at h
  omega
theorem array6 {α : Type} {cs : Array α} (h : cs.size = 6) : ∃ c0 c1 c2 c3 c4 c5, cs = #[c0, c1, c2, c3, c4, c5] := by
  obtain ⟨l⟩ := cs
  match l, h with
  | [c0, c1, c2, c3, c4, c5], _ => exact ⟨c0, c1, c2, c3, c4, c5, rfl⟩
end Go.Proofs.YtnfapdmbkpkkdaaGreat
