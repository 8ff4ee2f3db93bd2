/-
  Opening arguments of the statements about pairs of intervals: the struct of two intervals and two drafts.
-/
import Derived.Test.YtabnpidmhmebfaaDoorSpO
import Derived.Deep.Strs
namespace Go.Proofs.YtabnpidmhmebfaaDoor
open Go.ChangeShapes Go.WideShapes Go.ChangeAt Go.WideMaps Go.WideElems Go.RowKit Go.Joins

theorem Tryd.cellsint : Tryd.prog.cellsOf 3 = 1 := by kernel_rfl
theorem Tryd.cellsuint8 : Tryd.prog.cellsOf 5 = 1 := by kernel_rfl
theorem Tryd.cellsuint32 : Tryd.prog.cellsOf 41 = 1 := by kernel_rfl
theorem Tryd.cellsSpan : Tryd.prog.cellsOf 24 = 2 := by kernel_rfl
theorem Tryd.cellsDraft : Tryd.prog.cellsOf 43 = 3 := by kernel_rfl
theorem i64_of_wf {x : Int} (h : (Lit.int .i64 x).wf = true) : -9223372036854775808 ≤ x ∧ x ≤ 9223372036854775807 := by
  simp [Lit.wf, IntKind.min, IntKind.max, IntKind.signed, IntKind.bits] at h
  omega
theorem u8_of_wf {x : Int} (h : (Lit.int .u8 x).wf = true) : 0 ≤ x ∧ x ≤ 255 := by
  simp [Lit.wf, IntKind.min, IntKind.max, IntKind.signed, IntKind.bits] at h
  omega
theorem u32_of_wf {x : Int} (h : (Lit.int .u32 x).wf = true) : 0 ≤ x ∧ x ≤ 4294967295 := by
  simp [Lit.wf, IntKind.min, IntKind.max, IntKind.signed, IntKind.bits] at h
  omega
theorem array10 {α : Type} {cs : Array α} (h : cs.size = 10) : ∃ c0 c1 c2 c3 c4 c5 c6 c7 c8 c9, cs = #[c0, c1, c2, c3, c4, c5, c6, c7, c8, c9] := by
  obtain ⟨l⟩ := cs
  match l, h with
  | [c0, c1, c2, c3, c4, c5, c6, c7, c8, c9], _ => exact ⟨c0, c1, c2, c3, c4, c5, c6, c7, c8, c9, rfl⟩
theorem trod_span {H : Type} {enc : TypeId × Value → H} {w : World} {base : Nat} {spare : Nat → Bool} {held : Bool} {n : Nat} {c0 c1 : Value} {x : DataW H × List MemPlace} (h : DataW.trod enc Tryd.prog w base spare held n 24 [c0, c1] = some x) :
    ∃ a b : Int, c0 = .int .i64 a ∧ c1 = .int .i64 b ∧ x.2 = [] ∧ (Lit.int .i64 a).wf = true ∧ (Lit.int .i64 b).wf = true := by
  obtain ⟨y0, y1, m, rfl, _, h0, h1⟩ := trod_struct2 Tryd.underlying24 h
  obtain ⟨a, e0, rfl, wa⟩ := DataW.trod_int Tryd.underlying3 (show DataW.trod enc Tryd.prog w base spare held m 3 [c0] = some y0 by simpa [Tryd.cellsint] using h0)
  obtain ⟨b, e1, rfl, wb⟩ := DataW.trod_int Tryd.underlying3 (show DataW.trod enc Tryd.prog w base spare held m 3 [c1] = some y1 by simpa [Tryd.cellsint] using h1)
  simp at e0 e1
  exact ⟨a, b, e0, e1, rfl, wa, wb⟩
theorem trod_draft {H : Type} {enc : TypeId × Value → H} {w : World} {base : Nat} {spare : Nat → Bool} {held : Bool} {n : Nat} {c0 c1 c2 : Value} {x : DataW H × List MemPlace} (h : DataW.trod enc Tryd.prog w base spare held n 43 [c0, c1, c2] = some x) :
    ∃ a b c : Int, c0 = .int .i64 a ∧ c1 = .int .u8 b ∧ c2 = .int .u32 c ∧ x.2 = [] ∧ (Lit.int .i64 a).wf = true ∧ (Lit.int .u8 b).wf = true ∧ (Lit.int .u32 c).wf = true := by
  obtain ⟨y0, y1, y2, m, rfl, _, h0, h1, h2⟩ := Deep.trod_struct3 Tryd.underlying43 h
  obtain ⟨a, e0, rfl, wa⟩ := DataW.trod_int Tryd.underlying3 (show DataW.trod enc Tryd.prog w base spare held m 3 [c0] = some y0 by simpa [Tryd.cellsint] using h0)
  obtain ⟨b, e1, rfl, wb⟩ := DataW.trod_int Tryd.underlying5 (show DataW.trod enc Tryd.prog w base spare held m 5 [c1] = some y1 by simpa [Tryd.cellsuint8] using h1)
  obtain ⟨c, e2, rfl, wc⟩ := DataW.trod_int Tryd.underlying41 (show DataW.trod enc Tryd.prog w base spare held m 41 [c2] = some y2 by simpa [Tryd.cellsuint32] using h2)
  simp at e0 e1 e2
  exact ⟨a, b, c, e0, e1, e2, rfl, wa, wb, wc⟩
end Go.Proofs.YtabnpidmhmebfaaDoor
