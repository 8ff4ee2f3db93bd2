/-
  The arguments of layer 3's statements: long integers, drafts and pairs of them, opened.
-/
import Derived.Test.YtoppdbgodceaiaaDoorLhF
import Derived.Lib.SmallJoins
import Derived.ChangeSlices
import Derived.Carry
namespace Go.Proofs.YtoppdbgodceaiaaDoor
open Go.ChangeShapes Go.WideShapes Go.ChangeAt Go.WideMaps Go.WideElems Go.RowKit Go.Joins Go.Deep

/-- The slice value v holds the words l. -/
def Wd (w : World) (v : Value) (l : List Int) : Prop :=
  ∃ a cap, v = .slice a l.length cap ∧ l.length ≤ 9223372036854775807 ∧ (∀ x ∈ l, 0 ≤ x ∧ x ≤ 4294967295) ∧ (0 < l.length → ∃ b off, a = some ⟨b, off, none⟩ ∧ ∀ i, i < l.length → w.cell? ⟨b, off + i, none⟩ = some (.int .u32 (el l i)))
theorem Wd.keep {w w' : World} {v : Value} {l : List Int} (h : Wd w v l) (hb : Below w.heap.size w w') : Wd w' v l := by
  obtain ⟨a, cap, rfl, hl, hc, hq⟩ := h
  refine ⟨a, cap, rfl, hl, hc, fun hi => ?_⟩
  obtain ⟨b, off, rfl, h⟩ := hq hi
  exact ⟨b, off, rfl, fun i hi => (hb.cell (World.block_lt_of_cell? w _ (h i hi))).trans (h i hi)⟩
/-- All numbers of a list fit int. -/
def I64s (l : List Int) : Prop := ∀ x ∈ l, -9223372036854775808 ≤ x ∧ x ≤ 9223372036854775807
theorem i64_wf {x : Int} (h : (Lit.int .i64 x).wf = true) : -9223372036854775808 ≤ x ∧ x ≤ 9223372036854775807 := by
  simp [Lit.wf, IntKind.min, IntKind.max, IntKind.signed, IntKind.bits] at h
  omega
theorem u32_wf {x : Int} (h : (Lit.int .u32 x).wf = true) : 0 ≤ x ∧ x ≤ 4294967295 := by
  simp [Lit.wf, IntKind.min, IntKind.max, IntKind.signed, IntKind.bits] at h
  omega
theorem u8_wf {x : Int} (h : (Lit.int .u8 x).wf = true) : 0 ≤ x ∧ x ≤ 255 := by
  simp [Lit.wf, IntKind.min, IntKind.max, IntKind.signed, IntKind.bits] at h
  omega
theorem maxLen_le : maxLen ≤ 9223372036854775807 := by unfold maxLen; omega
theorem el_take_lt (l : List Int) (n i : Nat) (h : i < n) : el (l.take n) i = el l i := el_take h

section
variable {H : Type} {enc : TypeId × Value → H} {w : World} {spare : Nat → Bool} {held : Bool} {base fuel : Nat}
set_option maxRecDepth 100000 in
theorem trod_digits {v : Value} {y : DataW H × List MemPlace} (h : DataW.trod enc Tryd.prog w base spare held fuel 22 [v] = some y) :
    ∃ l, Ls w v l ∧ I64s l ∧ l.length ≤ 9223372036854775807 := by
  rcases open_ints Tryd.underlying22 Tryd.underlying3 (by kernel_rfl) h with ⟨hv, _⟩ | ⟨a, len, cap, zs, hv, _, hl, hm, hz, _, hcell, hw⟩
  · injection hv with hv
    subst hv
    exact ⟨[], Ls.nil w, (by intro x hx; cases hx), by simp⟩
  · injection hv with hv
    subst hv
    have hlz : len ≤ zs.length := by rw [hz]; split <;> omega
    have e : (zs.take len).length = len := by rw [List.length_take, Nat.min_eq_left hlz]
    have := maxLen_le
    refine ⟨zs.take len, ⟨some a, cap, by rw [e], ⟨by omega, fun h => by cases h⟩, fun h0 => ?_⟩, fun x hx => i64_wf (hw x (List.mem_of_mem_take hx)), by omega⟩
    rw [e] at h0
    obtain ⟨b, off, spot⟩ := a
    have hspot : spot = none := by simpa [Addr.add] using World.cell?_spot (hcell 0 (by omega))
    subst hspot
    refine ⟨b, off, rfl, fun i hi => ?_⟩
    rw [e] at hi
    rw [← add_plain, hcell i (by omega), el_take_lt _ _ _ hi, el_eq]
set_option maxRecDepth 100000 in
theorem trod_words {v : Value} {y : DataW H × List MemPlace} (h : DataW.trod enc Tryd.prog w base spare held fuel 25 [v] = some y) :
    ∃ l, Wd w v l := by
  rcases open_ints Tryd.underlying25 Tryd.underlying97 (by kernel_rfl) h with ⟨hv, _⟩ | ⟨a, len, cap, zs, hv, _, hl, hm, hz, _, hcell, hw⟩
  · injection hv with hv
    subst hv
    exact ⟨[], none, 0, rfl, by simp, (by intro x hx; cases hx), fun h => absurd h (by simp)⟩
  · injection hv with hv
    subst hv
    have hlz : len ≤ zs.length := by rw [hz]; split <;> omega
    have e : (zs.take len).length = len := by rw [List.length_take, Nat.min_eq_left hlz]
    have := maxLen_le
    refine ⟨zs.take len, some a, cap, by rw [e], by omega, fun x hx => u32_wf (hw x (List.mem_of_mem_take hx)), fun h0 => ?_⟩
    rw [e] at h0
    obtain ⟨b, off, spot⟩ := a
    have hspot : spot = none := by simpa [Addr.add] using World.cell?_spot (hcell 0 (by omega))
    subst hspot
    refine ⟨b, off, rfl, fun i hi => ?_⟩
    rw [e] at hi
    rw [← add_plain, hcell i (by omega), el_take_lt _ _ _ hi, el_eq]
set_option maxRecDepth 100000 in
theorem trod_long {cs : List Value} {y : DataW H × List MemPlace} (h : DataW.trod enc Tryd.prog w base spare held fuel 24 cs = some y) :
    ∃ b s l, cs = [.bool b, s] ∧ Ls w s l ∧ I64s l ∧ l.length ≤ 9223372036854775807 := by
  obtain ⟨y0, y1, n, _, hlen, h0, h1⟩ := trod_struct2 Tryd.underlying24 h
  have hc : cs.length = 2 := hlen.trans (by kernel_rfl)
  match cs, hc with
  | [c0, c1], _ =>
    have k0 : Tryd.prog.cellsOf 4 = 1 := by kernel_rfl
    have k1 : Tryd.prog.cellsOf 22 = 1 := by kernel_rfl
    obtain ⟨b, e0, _⟩ := DataW.trod_bool Tryd.underlying4 (show DataW.trod enc Tryd.prog w base spare held n 4 [c0] = some y0 by simpa [k0] using h0)
    obtain ⟨l, hl⟩ := trod_digits (show DataW.trod enc Tryd.prog w base spare held n 22 [c1] = some y1 by simpa [k1] using h1)
    injection e0 with e0
    subst e0
    exact ⟨b, c1, l, rfl, hl⟩
set_option maxRecDepth 100000 in
theorem trod_draft {cs : List Value} {y : DataW H × List MemPlace} (h : DataW.trod enc Tryd.prog w base spare held fuel 27 cs = some y) :
    ∃ b k s l, cs = [.bool b, .int .u8 k, s] ∧ 0 ≤ k ∧ k ≤ 255 ∧ Wd w s l := by
  obtain ⟨y0, y1, y2, n, _, hlen, h0, h1, h2⟩ := trod_struct3 Tryd.underlying27 h
  have hc : cs.length = 3 := hlen.trans (by kernel_rfl)
  match cs, hc with
  | [c0, c1, c2], _ =>
    have k0 : Tryd.prog.cellsOf 4 = 1 := by kernel_rfl
    have k1 : Tryd.prog.cellsOf 5 = 1 := by kernel_rfl
    have k2 : Tryd.prog.cellsOf 25 = 1 := by kernel_rfl
    obtain ⟨b, e0, _⟩ := DataW.trod_bool Tryd.underlying4 (show DataW.trod enc Tryd.prog w base spare held n 4 [c0] = some y0 by simpa [k0] using h0)
    obtain ⟨k, e1, _, wk⟩ := DataW.trod_int Tryd.underlying5 (show DataW.trod enc Tryd.prog w base spare held n 5 [c1] = some y1 by simpa [k1] using h1)
    obtain ⟨l, hl⟩ := trod_words (show DataW.trod enc Tryd.prog w base spare held n 25 [c2] = some y2 by simpa [k2] using h2)
    injection e0 with e0
    injection e1 with e1
    subst e0 e1
    exact ⟨b, k, c2, l, rfl, (u8_wf wk).1, (u8_wf wk).2, hl⟩
set_option maxRecDepth 100000 in
/-- An argument that is a draft. -/
theorem open_draft {r : Reach} {b0 : Nat} {v : Value} {d : DataW H} {p : List MemPlace} (hv : Value.okWide Tryd.prog w r b0 27 v) (h : DataW.Trod enc Tryd.prog w base spare held 27 v d p) :
    ∃ b k s l, v = .agg #[.bool b, .int .u8 k, s] ∧ 0 ≤ k ∧ k ≤ 255 ∧ Wd w s l := by
  obtain ⟨cs, rfl, hsz⟩ := okWide_struct Tryd.underlying27 hv
  obtain ⟨fuel, hf⟩ := h
  obtain ⟨b, k, s, l, e, h⟩ := trod_draft hf
  exact ⟨b, k, s, l, by cases cs; simp [Value.cells] at e; rw [e], h⟩
set_option maxRecDepth 100000 in
/-- An argument that is a long integer. -/
theorem open_long {r : Reach} {b0 : Nat} {v : Value} {d : DataW H} {p : List MemPlace} (hv : Value.okWide Tryd.prog w r b0 24 v) (h : DataW.Trod enc Tryd.prog w base spare held 24 v d p) :
    ∃ b s l, v = .agg #[.bool b, s] ∧ Ls w s l ∧ I64s l ∧ l.length ≤ 9223372036854775807 := by
  obtain ⟨cs, rfl, hsz⟩ := okWide_struct Tryd.underlying24 hv
  obtain ⟨fuel, hf⟩ := h
  obtain ⟨b, s, l, e, h⟩ := trod_long hf
  exact ⟨b, s, l, by cases cs; simp [Value.cells] at e; rw [e], h⟩
set_option maxRecDepth 100000 in
/-- An argument that is two long integers and two drafts. -/
theorem open_two {r : Reach} {b0 : Nat} {v : Value} {d : DataW H} {p : List MemPlace} (hv : Value.okWide Tryd.prog w r b0 29 v) (h : DataW.Trod enc Tryd.prog w base spare held 29 v d p) :
    ∃ b1 s1 l1 b2 s2 l2 b3 k3 s3 m3 b4 k4 s4 m4, v = .agg #[.bool b1, s1, .bool b2, s2, .bool b3, .int .u8 k3, s3, .bool b4, .int .u8 k4, s4] ∧ (Ls w s1 l1 ∧ I64s l1 ∧ l1.length ≤ 9223372036854775807) ∧ (Ls w s2 l2 ∧ I64s l2 ∧ l2.length ≤ 9223372036854775807) ∧ (0 ≤ k3 ∧ k3 ≤ 255 ∧ Wd w s3 m3) ∧ (0 ≤ k4 ∧ k4 ≤ 255 ∧ Wd w s4 m4) := by
  obtain ⟨cs, rfl, hsz⟩ := okWide_struct Tryd.underlying29 hv
  obtain ⟨fuel, hf⟩ := h
  obtain ⟨y0, y1, y2, y3, n, _, hlen, h0, h1, h2, h3⟩ := trod_struct4 Tryd.underlying29 hf
  have hc : (Value.agg cs).cells.toList.length = 10 := hlen.trans (by kernel_rfl)
  have kL : Tryd.prog.cellsOf 24 = 2 := by kernel_rfl
  have kD : Tryd.prog.cellsOf 27 = 3 := by kernel_rfl
  obtain ⟨L⟩ := cs
  simp only [Value.cells] at hc h0 h1 h2 h3
  match L, hc with
  | [c0, c1, c2, c3, c4, c5, c6, c7, c8, c9], _ =>
    obtain ⟨b1, s1, l1, e1, g1⟩ := trod_long (show DataW.trod enc Tryd.prog w base spare held n 24 [c0, c1] = some y0 by simpa [kL, kD] using h0)
    obtain ⟨b2, s2, l2, e2, g2⟩ := trod_long (show DataW.trod enc Tryd.prog w base spare held n 24 [c2, c3] = some y1 by simpa [kL, kD] using h1)
    obtain ⟨b3, k3, s3, m3, e3, g3⟩ := trod_draft (show DataW.trod enc Tryd.prog w base spare held n 27 [c4, c5, c6] = some y2 by simpa [kL, kD] using h2)
    obtain ⟨b4, k4, s4, m4, e4, g4⟩ := trod_draft (show DataW.trod enc Tryd.prog w base spare held n 27 [c7, c8, c9] = some y3 by simpa [kL, kD] using h3)
    simp only [List.cons.injEq, and_true] at e1 e2 e3 e4
    obtain ⟨rfl, rfl⟩ := e1
    obtain ⟨rfl, rfl⟩ := e2
    obtain ⟨rfl, rfl, rfl⟩ := e3
    obtain ⟨rfl, rfl, rfl⟩ := e4
    exact ⟨_, _, _, _, _, _, _, _, _, _, _, _, _, _, rfl, g1, g2, g3, g4⟩
end
end Go.Proofs.YtoppdbgodceaiaaDoor
