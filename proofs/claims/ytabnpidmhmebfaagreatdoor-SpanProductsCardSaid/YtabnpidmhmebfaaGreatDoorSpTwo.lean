/-
  Opening arguments of the statements about pairs of intervals: the struct of two intervals and two drafts.
-/
import Derived.Test.YtabnpidmhmebfaaGreatDoorSpO
import Derived.Deep.Strs
namespace Go.Proofs.YtabnpidmhmebfaaGreatDoor
open Go.ChangeShapes Go.WideShapes Go.ChangeAt Go.WideMaps Go.WideElems Go.RowKit Go.Joins

theorem Tryz.cellsTwo : Tryz.prog.cellsOf 28 = 10 := by kernel_rfl
theorem Tryz.cellsint : Tryz.prog.cellsOf 3 = 1 := by kernel_rfl
theorem Tryz.cellsuint8 : Tryz.prog.cellsOf 5 = 1 := by kernel_rfl
theorem Tryz.cellsuint32 : Tryz.prog.cellsOf 24 = 1 := by kernel_rfl
theorem Tryz.cellsSpan : Tryz.prog.cellsOf 23 = 2 := by kernel_rfl
theorem Tryz.cellsDraft : Tryz.prog.cellsOf 26 = 3 := by kernel_rfl
theorem i64_of_wf {x : Int} (h : (Lit.int .i64 x).wf = true) : -9223372036854775808 ≤ x ∧ x ≤ 9223372036854775807 := by
  simp [Lit.wf, IntKind.min, IntKind.max, IntKind.signed, IntKind.bits] at h
  omega
theorem u8_of_wf {x : Int} (h : (Lit.int .u8 x).wf = true) : 0 ≤ x ∧ x ≤ 255 := by
  simp [Lit.wf, IntKind.min, IntKind.max, IntKind.signed, IntKind.bits] at h
  omega
theorem u32_of_wf {x : Int} (h : (Lit.int .u32 x).wf = true) : 0 ≤ x ∧ x ≤ 4294967295 := by
  simp [Lit.wf, IntKind.min, IntKind.max, IntKind.signed, IntKind.bits] at h
  omega
theorem array10 {α : Type} {cs : Array α} (h : cs.size = 10) : ∃ c0 c1 c2 c3 c4 c5 c6 c7 c8 c9, cs = #[c0, c1, c2, c3, c4, c5, c6, c7, c8, c9] := by
  obtain ⟨l⟩ := cs
  match l, h with
  | [c0, c1, c2, c3, c4, c5, c6, c7, c8, c9], _ => exact ⟨c0, c1, c2, c3, c4, c5, c6, c7, c8, c9, rfl⟩
theorem trod_span {H : Type} {enc : TypeId × Value → H} {w : World} {base : Nat} {spare : Nat → Bool} {held : Bool} {n : Nat} {c0 c1 : Value} {x : DataW H × List MemPlace} (h : DataW.trod enc Tryz.prog w base spare held n 23 [c0, c1] = some x) :
    ∃ a b : Int, c0 = .int .i64 a ∧ c1 = .int .i64 b ∧ x.2 = [] ∧ (Lit.int .i64 a).wf = true ∧ (Lit.int .i64 b).wf = true := by
  obtain ⟨y0, y1, m, rfl, _, h0, h1⟩ := trod_struct2 Tryz.underlying23 h
  obtain ⟨a, e0, rfl, wa⟩ := DataW.trod_int Tryz.underlying3 (show DataW.trod enc Tryz.prog w base spare held m 3 [c0] = some y0 by simpa [Tryz.cellsint] using h0)
  obtain ⟨b, e1, rfl, wb⟩ := DataW.trod_int Tryz.underlying3 (show DataW.trod enc Tryz.prog w base spare held m 3 [c1] = some y1 by simpa [Tryz.cellsint] using h1)
  simp at e0 e1
  exact ⟨a, b, e0, e1, rfl, wa, wb⟩
theorem trod_draft {H : Type} {enc : TypeId × Value → H} {w : World} {base : Nat} {spare : Nat → Bool} {held : Bool} {n : Nat} {c0 c1 c2 : Value} {x : DataW H × List MemPlace} (h : DataW.trod enc Tryz.prog w base spare held n 26 [c0, c1, c2] = some x) :
    ∃ a b c : Int, c0 = .int .i64 a ∧ c1 = .int .u8 b ∧ c2 = .int .u32 c ∧ x.2 = [] ∧ (Lit.int .i64 a).wf = true ∧ (Lit.int .u8 b).wf = true ∧ (Lit.int .u32 c).wf = true := by
  obtain ⟨y0, y1, y2, m, rfl, _, h0, h1, h2⟩ := Deep.trod_struct3 Tryz.underlying26 h
  obtain ⟨a, e0, rfl, wa⟩ := DataW.trod_int Tryz.underlying3 (show DataW.trod enc Tryz.prog w base spare held m 3 [c0] = some y0 by simpa [Tryz.cellsint] using h0)
  obtain ⟨b, e1, rfl, wb⟩ := DataW.trod_int Tryz.underlying5 (show DataW.trod enc Tryz.prog w base spare held m 5 [c1] = some y1 by simpa [Tryz.cellsuint8] using h1)
  obtain ⟨c, e2, rfl, wc⟩ := DataW.trod_int Tryz.underlying24 (show DataW.trod enc Tryz.prog w base spare held m 24 [c2] = some y2 by simpa [Tryz.cellsuint32] using h2)
  simp at e0 e1 e2
  exact ⟨a, b, c, e0, e1, e2, rfl, wa, wb, wc⟩
set_option maxRecDepth 100000 in
theorem open_two {H : Type} {enc : TypeId × Value → H} {w : World} {base : Nat} {spare : Nat → Bool} {held : Bool} {r : Reach} {b0 : Nat} {v : Value} {d : DataW H} {p : List MemPlace} (hv : Value.okWide Tryz.prog w r b0 28 v) (h : DataW.Trod enc Tryz.prog w base spare held 28 v d p) :
    ∃ a b c d x y z x' y' z' : Int, v = .agg #[.int .i64 a, .int .i64 b, .int .i64 c, .int .i64 d, .int .i64 x, .int .u8 y, .int .u32 z, .int .i64 x', .int .u8 y', .int .u32 z'] ∧ p = [] ∧ 0 ≤ y ∧ y ≤ 255 ∧ 0 ≤ z ∧ z ≤ 4294967295 ∧ 0 ≤ y' ∧ y' ≤ 255 ∧ 0 ≤ z' ∧ z' ≤ 4294967295 ∧
      (-9223372036854775808 ≤ a ∧ a ≤ 9223372036854775807) ∧ (-9223372036854775808 ≤ b ∧ b ≤ 9223372036854775807) ∧ (-9223372036854775808 ≤ c ∧ c ≤ 9223372036854775807) ∧ (-9223372036854775808 ≤ d ∧ d ≤ 9223372036854775807) := by
  obtain ⟨cs, rfl, hsz⟩ := okWide_struct Tryz.underlying28 hv
  obtain ⟨c0, c1, c2, c3, c4, c5, c6, c7, c8, c9, rfl⟩ := array10 (hsz.trans Tryz.cellsTwo)
  obtain ⟨fuel, hf⟩ := h
  obtain ⟨y0, y1, y2, y3, n, hx, _, h0, h1, h2, h3⟩ := trod_struct4 Tryz.underlying28 hf
  obtain ⟨a, b, rfl, rfl, e0, wa, wb⟩ := trod_span (show DataW.trod enc Tryz.prog w base spare held n 23 [c0, c1] = some y0 by simpa [Value.cells, Tryz.cellsSpan] using h0)
  obtain ⟨c, d, rfl, rfl, e1, wc, wd⟩ := trod_span (show DataW.trod enc Tryz.prog w base spare held n 23 [c2, c3] = some y1 by simpa [Value.cells, Tryz.cellsSpan] using h1)
  obtain ⟨x, y, z, rfl, rfl, rfl, e2, _, wy, wz⟩ := trod_draft (show DataW.trod enc Tryz.prog w base spare held n 26 [c4, c5, c6] = some y2 by simpa [Value.cells, Tryz.cellsDraft] using h2)
  obtain ⟨x', y', z', rfl, rfl, rfl, e3, _, wy', wz'⟩ := trod_draft (show DataW.trod enc Tryz.prog w base spare held n 26 [c7, c8, c9] = some y3 by simpa [Value.cells, Tryz.cellsDraft] using h3)
  simp only [Prod.mk.injEq] at hx
  refine ⟨a, b, c, d, x, y, z, x', y', z', rfl, by rw [hx.2, e0, e1, e2, e3]; rfl, (u8_of_wf wy).1, (u8_of_wf wy).2, (u32_of_wf wz).1, (u32_of_wf wz).2, (u8_of_wf wy').1, (u8_of_wf wy').2, (u32_of_wf wz').1, (u32_of_wf wz').2, i64_of_wf wa, i64_of_wf wb, i64_of_wf wc, i64_of_wf wd⟩

end Go.Proofs.YtabnpidmhmebfaaGreatDoor
