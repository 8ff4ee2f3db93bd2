/-
  The arguments of layer 3's statements: long integers, drafts and pairs of them, opened.
-/
import Derived.Test.YthhbnhdejbpjiaaDoorLhF
import Derived.Lib.SmallJoins
import Derived.ChangeSlices
import Derived.Carry
namespace Go.Proofs.YthhbnhdejbpjiaaDoor
open Go.ChangeShapes Go.WideShapes Go.ChangeAt Go.WideMaps Go.WideElems Go.RowKit Go.Joins Go.Deep

/-- The slice value v holds the words l. -/
def Wd (w : World) (v : Value) (l : List Int) : Prop :=
  ∃ a cap, v = .slice a l.length cap ∧ l.length ≤ 9223372036854775807 ∧ (∀ x ∈ l, 0 ≤ x ∧ x ≤ 4294967295) ∧ (0 < l.length → ∃ b off, a = some ⟨b, off, none⟩ ∧ ∀ i, i < l.length → w.cell? ⟨b, off + i, none⟩ = some (.int .u32 (el l i)))
theorem Wd.keep {w w' : World} {v : Value} {l : List Int} (h : Wd w v l) (hb : Below w.heap.size w w') : Wd w' v l := by
  obtain ⟨a, cap, rfl, hl, hc, hq⟩ := h
  refine ⟨a, cap, rfl, hl, hc, fun hi => ?_⟩
  obtain ⟨b, off, rfl, h⟩ := hq hi
  exact ⟨b, off, rfl, fun i hi => (hb.cell (World.block_lt_of_cell? w _ (h i hi))).trans (h i hi)⟩
/-- All numbers of a list fit int. -/
def I64s (l : List Int) : Prop := ∀ x ∈ l, -9223372036854775808 ≤ x ∧ x ≤ 9223372036854775807
theorem i64_wf {x : Int} (h : (Lit.int .i64 x).wf = true) : -9223372036854775808 ≤ x ∧ x ≤ 9223372036854775807 := by
  simp [Lit.wf, IntKind.min, IntKind.max, IntKind.signed, IntKind.bits] at h
  omega
theorem u32_wf {x : Int} (h : (Lit.int .u32 x).wf = true) : 0 ≤ x ∧ x ≤ 4294967295 := by
  simp [Lit.wf, IntKind.min, IntKind.max, IntKind.signed, IntKind.bits] at h
  omega
theorem u8_wf {x : Int} (h : (Lit.int .u8 x).wf = true) : 0 ≤ x ∧ x ≤ 255 := by
  simp [Lit.wf, IntKind.min, IntKind.max, IntKind.signed, IntKind.bits] at h
  omega
theorem maxLen_le : maxLen ≤ 9223372036854775807 := by unfold maxLen; omega
theorem el_take_lt (l : List Int) (n i : Nat) (h : i < n) : el (l.take n) i = el l i := el_take h

section Opening
variable {H : Type} {enc : TypeId × Value → H} {w : World} {spare : Nat → Bool} {held : Bool} {base fuel : Nat}
set_option maxRecDepth 100000 in
theorem trod_digits {v : Value} {y : DataW H × List MemPlace} (h : DataW.trod enc Tryd.prog w base spare held fuel 23 [v] = some y) :
    ∃ l, Ls w v l ∧ I64s l ∧ l.length ≤ 9223372036854775807 := by
  rcases open_ints Tryd.underlying23 Tryd.underlying3 (by kernel_rfl) h with ⟨hv, _⟩ | ⟨a, len, cap, zs, hv, _, hl, hm, hz, _, hcell, hw⟩
  · injection hv with hv
    subst hv
    exact ⟨[], Ls.nil w, (by intro x hx; cases hx), by simp⟩
  · injection hv with hv
    subst hv
    have hlz : len ≤ zs.length := by rw [hz]; split <;> omega
    have e : (zs.take len).length = len := by rw [List.length_take, Nat.min_eq_left hlz]
    have := maxLen_le
    refine ⟨zs.take len, ⟨some a, cap, by rw [e], ⟨by omega, fun h => by cases h⟩, fun h0 => ?_⟩, fun x hx => i64_wf (hw x (List.mem_of_mem_take hx)), by omega⟩
    rw [e] at h0
    obtain ⟨b, off, spot⟩ := a
    have hspot : spot = none := by simpa [Addr.add] using World.cell?_spot (hcell 0 (by omega))
    subst hspot
    refine ⟨b, off, rfl, fun i hi => ?_⟩
    rw [e] at hi
    rw [← add_plain, hcell i (by omega), el_take_lt _ _ _ hi, el_eq]
set_option maxRecDepth 100000 in
theorem trod_long {cs : List Value} {y : DataW H × List MemPlace} (h : DataW.trod enc Tryd.prog w base spare held fuel 25 cs = some y) :
    ∃ b s l, cs = [.bool b, s] ∧ Ls w s l ∧ I64s l ∧ l.length ≤ 9223372036854775807 := by
  obtain ⟨y0, y1, n, _, hlen, h0, h1⟩ := trod_struct2 Tryd.underlying25 h
  have hc : cs.length = 2 := hlen.trans (by kernel_rfl)
  match cs, hc with
  | [c0, c1], _ =>
    have k0 : Tryd.prog.cellsOf 4 = 1 := by kernel_rfl
    have k1 : Tryd.prog.cellsOf 23 = 1 := by kernel_rfl
    obtain ⟨b, e0, _⟩ := DataW.trod_bool Tryd.underlying4 (show DataW.trod enc Tryd.prog w base spare held n 4 [c0] = some y0 by simpa [k0] using h0)
    obtain ⟨l, hl⟩ := trod_digits (show DataW.trod enc Tryd.prog w base spare held n 23 [c1] = some y1 by simpa [k1] using h1)
    injection e0 with e0
    subst e0
    exact ⟨b, c1, l, rfl, hl⟩
set_option maxRecDepth 100000 in
/-- An argument that is a long integer. -/
theorem open_long {r : Reach} {b0 : Nat} {v : Value} {d : DataW H} {p : List MemPlace} (hv : Value.okWide Tryd.prog w r b0 25 v) (h : DataW.Trod enc Tryd.prog w base spare held 25 v d p) :
    ∃ b s l, v = .agg #[.bool b, s] ∧ Ls w s l ∧ I64s l ∧ l.length ≤ 9223372036854775807 := by
  obtain ⟨cs, rfl, hsz⟩ := okWide_struct Tryd.underlying25 hv
  obtain ⟨fuel, hf⟩ := h
  obtain ⟨b, s, l, e, h⟩ := trod_long hf
  exact ⟨b, s, l, by cases cs; simp [Value.cells] at e; rw [e], h⟩
end Opening
end Go.Proofs.YthhbnhdejbpjiaaDoor
