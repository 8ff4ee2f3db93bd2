/-
  Opening an argument of type Places: a struct of two unsigned numbers.
-/
import Derived.Test.YtpfmhpmpjejdcaaDoorSpTwo
namespace Go.Proofs.YtpfmhpmpjejdcaaDoor
open Go.ChangeShapes Go.WideShapes Go.ChangeAt Go.WideMaps Go.WideElems Go.RowKit Go.Joins

theorem Tryd.cellsPlaces : Tryd.prog.cellsOf 54 = 2 := by kernel_rfl
theorem Tryd.cellsuint64 : Tryd.prog.cellsOf 52 = 1 := by kernel_rfl
set_option maxRecDepth 100000 in
theorem u64_of_wf {x : Int} (h : (Lit.int .u64 x).wf = true) : 0 ≤ x ∧ x ≤ 18446744073709551615 := by
  simp [Lit.wf, IntKind.min, IntKind.max, IntKind.signed, IntKind.bits] at h
  omega
theorem array2 {α : Type} {cs : Array α} (h : cs.size = 2) : ∃ c0 c1, cs = #[c0, c1] := by
  obtain ⟨l⟩ := cs
  match l, h with
  | [c0, c1], _ => exact ⟨c0, c1, rfl⟩
set_option maxRecDepth 100000 in
theorem open_places {H : Type} {enc : TypeId × Value → H} {w : World} {base : Nat} {spare : Nat → Bool} {held : Bool} {r : Reach} {b0 : Nat} {v : Value} {d : DataW H} {p : List MemPlace} (hv : Value.okWide Tryd.prog w r b0 54 v) (h : DataW.Trod enc Tryd.prog w base spare held 54 v d p) :
    ∃ a b : Int, v = .agg #[.int .u64 a, .int .u64 b] ∧ p = [] ∧ 0 ≤ a ∧ a ≤ 18446744073709551615 ∧ 0 ≤ b ∧ b ≤ 18446744073709551615 := by
  obtain ⟨cs, rfl, hsz⟩ := okWide_struct Tryd.underlying54 hv
  obtain ⟨c0, c1, rfl⟩ := array2 (hsz.trans Tryd.cellsPlaces)
  obtain ⟨fuel, hf⟩ := h
  obtain ⟨y0, y1, n, hx, _, h0, h1⟩ := trod_struct2 Tryd.underlying54 hf
  obtain ⟨a, e0, rfl, wa⟩ := DataW.trod_int Tryd.underlying52 (show DataW.trod enc Tryd.prog w base spare held n 52 [c0] = some y0 by simpa [Value.cells, Tryd.cellsuint64] using h0)
  obtain ⟨b, e1, rfl, wb⟩ := DataW.trod_int Tryd.underlying52 (show DataW.trod enc Tryd.prog w base spare held n 52 [c1] = some y1 by simpa [Value.cells, Tryd.cellsuint64] using h1)
  simp at e0 e1
  subst e0 e1
  simp only [Prod.mk.injEq] at hx
  exact ⟨a, b, rfl, by rw [hx.2]; rfl, (u64_of_wf wa).1, (u64_of_wf wa).2, (u64_of_wf wb).1, (u64_of_wf wb).2⟩

end Go.Proofs.YtpfmhpmpjejdcaaDoor
