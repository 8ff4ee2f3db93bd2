/-
  The arguments of layer 8's statements, opened.
-/
import Derived.Test.YtdaignklmbmcnaaPyF
import Derived.WalkKit
import Derived.ProofKit
import Derived.OpenShut
import Derived.Deep.Strs
import Derived.Deep.Slices
import Derived.Lib.SmallJoins
import Derived.ChangeSlices
import Derived.Carry
namespace Go.Proofs.Ytdaignklmbmcnaa
open Go.ChangeShapes Go.WideShapes Go.ChangeAt Go.WideMaps Go.WideElems Go.RowKit Go.Joins

theorem py_i64_wf {x : Int} (h : (Lit.int .i64 x).wf = true) : -9223372036854775808 ≤ x ∧ x ≤ 9223372036854775807 := by
  simp [Lit.wf, IntKind.min, IntKind.max, IntKind.signed, IntKind.bits] at h
  omega
theorem py_u8_wf {x : Int} (h : (Lit.int .u8 x).wf = true) : 0 ≤ x ∧ x ≤ 255 := by
  simp [Lit.wf, IntKind.min, IntKind.max, IntKind.signed, IntKind.bits] at h
  omega
theorem py_u32_wf {x : Int} (h : (Lit.int .u32 x).wf = true) : 0 ≤ x ∧ x ≤ 4294967295 := by
  simp [Lit.wf, IntKind.min, IntKind.max, IntKind.signed, IntKind.bits] at h
  omega
theorem py_u64_wf {x : Int} (h : (Lit.int .u64 x).wf = true) : 0 ≤ x ∧ x ≤ 18446744073709551615 := by
  simp [Lit.wf, IntKind.min, IntKind.max, IntKind.signed, IntKind.bits] at h
  omega
theorem py_cellsint : Try.prog.cellsOf 3 = 1 := by kernel_rfl
theorem py_cellsuint8 : Try.prog.cellsOf 5 = 1 := by kernel_rfl
theorem py_cellsuint32 : Try.prog.cellsOf 26 = 1 := by kernel_rfl
theorem py_cellsSpan : Try.prog.cellsOf 24 = 2 := by kernel_rfl
theorem py_cellsDraft : Try.prog.cellsOf 28 = 3 := by kernel_rfl
section opening
variable {H : Type} {enc : TypeId × Value → H} {w : World} {base : Nat} {spare : Nat → Bool} {held : Bool} {fuel : Nat}
set_option maxRecDepth 100000 in
theorem py_trod_span {c0 c1 : Value} {x : DataW H × List MemPlace} (h : DataW.trod enc Try.prog w base spare held fuel 24 [c0, c1] = some x) :
    ∃ a b : Int, c0 = .int .i64 a ∧ c1 = .int .i64 b ∧ (-9223372036854775808 ≤ a ∧ a ≤ 9223372036854775807) ∧ (-9223372036854775808 ≤ b ∧ b ≤ 9223372036854775807) := by
  obtain ⟨y0, y1, m, rfl, _, h0, h1⟩ := trod_struct2 Try.underlying24 h
  obtain ⟨a, e0, rfl, wa⟩ := DataW.trod_int Try.underlying3 (show DataW.trod enc Try.prog w base spare held m 3 [c0] = some y0 by simpa [py_cellsint] using h0)
  obtain ⟨b, e1, rfl, wb⟩ := DataW.trod_int Try.underlying3 (show DataW.trod enc Try.prog w base spare held m 3 [c1] = some y1 by simpa [py_cellsint] using h1)
  simp at e0 e1
  exact ⟨a, b, e0, e1, py_i64_wf wa, py_i64_wf wb⟩
set_option maxRecDepth 100000 in
theorem py_trod_draft {c0 c1 c2 : Value} {x : DataW H × List MemPlace} (h : DataW.trod enc Try.prog w base spare held fuel 28 [c0, c1, c2] = some x) :
    ∃ a b c : Int, c0 = .int .i64 a ∧ c1 = .int .u8 b ∧ c2 = .int .u32 c ∧ 0 ≤ b ∧ b ≤ 255 ∧ 0 ≤ c ∧ c ≤ 4294967295 := by
  obtain ⟨y0, y1, y2, m, rfl, _, h0, h1, h2⟩ := Deep.trod_struct3 Try.underlying28 h
  obtain ⟨a, e0, rfl, wa⟩ := DataW.trod_int Try.underlying3 (show DataW.trod enc Try.prog w base spare held m 3 [c0] = some y0 by simpa [py_cellsint] using h0)
  obtain ⟨b, e1, rfl, wb⟩ := DataW.trod_int Try.underlying5 (show DataW.trod enc Try.prog w base spare held m 5 [c1] = some y1 by simpa [py_cellsuint8] using h1)
  obtain ⟨c, e2, rfl, wc⟩ := DataW.trod_int Try.underlying26 (show DataW.trod enc Try.prog w base spare held m 26 [c2] = some y2 by simpa [py_cellsuint32] using h2)
  simp at e0 e1 e2
  exact ⟨a, b, c, e0, e1, e2, (py_u8_wf wb).1, (py_u8_wf wb).2, (py_u32_wf wc).1, (py_u32_wf wc).2⟩
theorem list_of {α : Type} {n : Nat} {p : Nat → α → Prop} (d : α) (h : ∀ i, i < n → ∃ x, p i x) : ∃ l : List α, l.length = n ∧ ∀ i, i < n → p i (l.getD i d) := by
  induction n with
  | zero => exact ⟨[], rfl, fun i hi => by omega⟩
  | succ n ih =>
    obtain ⟨l, hl, hp⟩ := ih fun i hi => h i (by omega)
    obtain ⟨x, hx⟩ := h n (by omega)
    refine ⟨l ++ [x], by simp [hl], fun i hi => ?_⟩
    by_cases c : i < n
    · have e : (l ++ [x]).getD i d = l.getD i d := by
        rw [List.getD_eq_getElem?_getD, List.getD_eq_getElem?_getD, List.getElem?_append_left (by omega)]
      rw [e]; exact hp i c
    · have e : i = l.length := by omega
      have e2 : (l ++ [x]).getD i d = x := by
        rw [List.getD_eq_getElem?_getD, e]; simp
      rw [e2, show i = n by omega]; exact hx
theorem py_add (b off j : Nat) : (⟨b, off, none⟩ : Addr).add j = ⟨b, off + j, none⟩ := by unfold Addr.add; split <;> simp_all
set_option maxRecDepth 100000 in
theorem py_drafts {v : Value} {y : DataW H × List MemPlace} (h : DataW.trod enc Try.prog w base spare held fuel 25 [v] = some y) : ∃ l, Dn w v l := by
  rcases Deep.open_slice Try.underlying25 h with ⟨hv, _⟩ | ⟨a, len, cap, m, n, D, Pl, hv, hb, hl, hm, hmm, hx, hi⟩
  · injection hv with hv
    subst hv
    exact ⟨[], none, 0, rfl, by simp, (by intro x hx; cases hx), fun h => absurd h (by simp)⟩
  · injection hv with hv
    subst hv
    have hlm : len ≤ m := by rw [hmm]; split <;> omega
    have hone : ∀ i, i < len → ∃ d : Int × Int × Int, Df d ∧ w.cell? (a.add (i * 3)) = some (.int .i64 d.1) ∧ w.cell? (a.add (i * 3 + 1)) = some (.int .u8 d.2.1) ∧ w.cell? (a.add (i * 3 + 2)) = some (.int .u32 d.2.2) := fun i hi' => by
      obtain ⟨cs', h1, h2⟩ := hi i (by omega)
      rw [py_cellsDraft] at h1
      obtain ⟨_, hlen, hat⟩ := World.cells?_some h1
      match cs', hlen with
      | [c0, c1, c2], _ =>
        obtain ⟨x0, x1, x2, rfl, rfl, rfl, g⟩ := py_trod_draft h2
        have a0 := hat 0 (by omega)
        have a1 := hat 1 (by omega)
        have a2 := hat 2 (by omega)
        rw [Go.Deep.add_add] at a0 a1 a2
        exact ⟨(x0, x1, x2), g, a0, a1, a2⟩
    obtain ⟨l, hll, hp⟩ := list_of (0, 0, 0) hone
    have := maxLen
    refine ⟨l, some a, cap, by rw [hll], by have : maxLen ≤ 9223372036854775807 := by unfold maxLen; omega
                                            omega, fun d hd => ?_, fun h0 => ?_⟩
    · obtain ⟨i, hi', rfl⟩ := List.getElem_of_mem hd
      have := (hp i (by omega)).1
      rwa [List.getD_eq_getElem?_getD, List.getElem?_eq_getElem hi'] at this
    · obtain ⟨b, off, spot⟩ := a
      have hspot : spot = none := by
        have := (hp 0 (by omega)).2.1
        simpa [Addr.add] using World.cell?_spot this
      subst hspot
      refine ⟨b, off, rfl, fun i hi' => ?_⟩
      obtain ⟨_, p0, p1, p2⟩ := hp i (by omega)
      rw [py_add] at p0 p1 p2
      exact ⟨p0, p1, p2⟩
set_option maxRecDepth 100000 in
theorem py_spans {v : Value} {y : DataW H × List MemPlace} (h : DataW.trod enc Try.prog w base spare held fuel 22 [v] = some y) : ∃ l, Sn w v l ∧ l.length ≤ 9223372036854775807 := by
  rcases Deep.open_slice Try.underlying22 h with ⟨hv, _⟩ | ⟨a, len, cap, m, n, D, Pl, hv, hb, hl, hm, hmm, hx, hi⟩
  · injection hv with hv
    subst hv
    exact ⟨[], Sn.nil w, by simp⟩
  · injection hv with hv
    subst hv
    have hlm : len ≤ m := by rw [hmm]; split <;> omega
    have hone : ∀ i, i < len → ∃ d : Int × Int, w.cell? (a.add (i * 2)) = some (.int .i64 d.1) ∧ w.cell? (a.add (i * 2 + 1)) = some (.int .i64 d.2) := fun i hi' => by
      obtain ⟨cs', h1, h2⟩ := hi i (by omega)
      rw [py_cellsSpan] at h1
      obtain ⟨_, hlen, hat⟩ := World.cells?_some h1
      match cs', hlen with
      | [c0, c1], _ =>
        obtain ⟨x0, x1, rfl, rfl, _⟩ := py_trod_span h2
        have a0 := hat 0 (by omega)
        have a1 := hat 1 (by omega)
        rw [Go.Deep.add_add] at a0 a1
        exact ⟨(x0, x1), a0, a1⟩
    obtain ⟨l, hll, hp⟩ := list_of (0, 0) hone
    have hmx : maxLen ≤ 9223372036854775807 := by unfold maxLen; omega
    refine ⟨l, ⟨some a, cap, by rw [hll], ⟨by omega, fun h => by cases h⟩, fun h0 => ?_⟩, by omega⟩
    obtain ⟨b, off, spot⟩ := a
    have hspot : spot = none := by
      have := (hp 0 (by omega)).1
      simpa [Addr.add] using World.cell?_spot this
    subst hspot
    refine ⟨b, off, rfl, fun i hi' => ?_⟩
    obtain ⟨p0, p1⟩ := hp i (by omega)
    rw [py_add] at p0 p1
    exact ⟨p0, p1⟩
set_option maxRecDepth 100000 in
/-- An argument that is a slice of drafts. -/
theorem open_drafts {r : Reach} {b0 : Nat} {v : Value} {d : DataW H} {p : List MemPlace} (hv : Value.okWide Try.prog w r b0 25 v) (h : DataW.Trod enc Try.prog w base spare held 25 v d p) : ∃ l, Dn w v l := by
  obtain ⟨a0, len, cap, rfl⟩ := okWide_slice Try.underlying25 hv
  obtain ⟨fuel, hf⟩ := h
  exact py_drafts (by simpa [Value.cells] using hf)
set_option maxRecDepth 100000 in
/-- An argument that is a slice of intervals. -/
theorem open_spans {r : Reach} {b0 : Nat} {v : Value} {d : DataW H} {p : List MemPlace} (hv : Value.okWide Try.prog w r b0 22 v) (h : DataW.Trod enc Try.prog w base spare held 22 v d p) : ∃ l, Sn w v l ∧ l.length ≤ 9223372036854775807 := by
  obtain ⟨a0, len, cap, rfl⟩ := okWide_slice Try.underlying22 hv
  obtain ⟨fuel, hf⟩ := h
  exact py_spans (by simpa [Value.cells] using hf)
set_option maxRecDepth 100000 in
/-- An argument that is an interval. -/
theorem open_span8 {r : Reach} {b0 : Nat} {v : Value} {d : DataW H} {p : List MemPlace} (hv : Value.okWide Try.prog w r b0 24 v) (h : DataW.Trod enc Try.prog w base spare held 24 v d p) :
    ∃ x y : Int, v = .agg #[.int .i64 x, .int .i64 y] ∧ (-9223372036854775808 ≤ x ∧ x ≤ 9223372036854775807) ∧ (-9223372036854775808 ≤ y ∧ y ≤ 9223372036854775807) := by
  obtain ⟨cs, rfl, hsz⟩ := okWide_struct Try.underlying24 hv
  obtain ⟨fuel, hf⟩ := h
  obtain ⟨L⟩ := cs
  match L, hsz.trans py_cellsSpan with
  | [c0, c1], _ =>
    obtain ⟨x, y, rfl, rfl, hx, hy⟩ := py_trod_span (by simpa [Value.cells] using hf)
    exact ⟨x, y, rfl, hx, hy⟩
set_option maxRecDepth 100000 in
/-- An argument that is a draft. -/
theorem open_draft8 {r : Reach} {b0 : Nat} {v : Value} {d : DataW H} {p : List MemPlace} (hv : Value.okWide Try.prog w r b0 28 v) (h : DataW.Trod enc Try.prog w base spare held 28 v d p) :
    ∃ x y z : Int, v = .agg #[.int .i64 x, .int .u8 y, .int .u32 z] ∧ 0 ≤ y ∧ y ≤ 255 ∧ 0 ≤ z ∧ z ≤ 4294967295 := by
  obtain ⟨cs, rfl, hsz⟩ := okWide_struct Try.underlying28 hv
  obtain ⟨fuel, hf⟩ := h
  obtain ⟨L⟩ := cs
  match L, hsz.trans py_cellsDraft with
  | [c0, c1, c2], _ =>
    obtain ⟨x, y, z, rfl, rfl, rfl, g⟩ := py_trod_draft (by simpa [Value.cells] using hf)
    exact ⟨x, y, z, rfl, g⟩
end opening
theorem okWide_array8 {P : Program} {w : World} {r : Reach} {base n : Nat} {t e : TypeId} {v : Value} (ht : P.underlying t = some (.array n e)) (h : Value.okWide P w r base t v) : ∃ cs, v = .agg cs ∧ cs.size = P.cellsOf t := by
  simp only [Value.okWide, ht] at h
  obtain ⟨cs, h1, h2, _⟩ := h
  exact ⟨cs, h1, h2⟩
theorem py_cellsParts : Try.prog.cellsOf 41 = 18 := by kernel_rfl
theorem py_cellsPair : Try.prog.cellsOf 40 = 2 := by kernel_rfl
theorem py_cellsuint64 : Try.prog.cellsOf 39 = 1 := by kernel_rfl
set_option maxRecDepth 100000 in
theorem py_trod_pair {H : Type} {enc : TypeId × Value → H} {w : World} {base : Nat} {spare : Nat → Bool} {held : Bool} {n : Nat} {c0 c1 : Value} {x : DataW H × List MemPlace} (h : DataW.trod enc Try.prog w base spare held n 40 [c0, c1] = some x) :
    ∃ a b : Int, c0 = .int .u64 a ∧ c1 = .int .u64 b ∧ 0 ≤ a ∧ 0 ≤ b := by
  obtain ⟨xs, m, _, _, _, hl, hx⟩ := DataW.trod_array (show Try.prog.underlying 40 = some (.array 2 39) by kernel_rfl) h
  have h0 := hx 0 (by omega)
  have h1 := hx 1 (by omega)
  rw [py_cellsuint64] at h0 h1
  match xs, hl with
  | [y0, y1], _ =>
    obtain ⟨a, e0, _, wa⟩ := DataW.trod_int Try.underlying39 (show DataW.trod enc Try.prog w base spare held m 39 [c0] = some y0 by simpa using h0)
    obtain ⟨b, e1, _, wb⟩ := DataW.trod_int Try.underlying39 (show DataW.trod enc Try.prog w base spare held m 39 [c1] = some y1 by simpa using h1)
    simp at e0 e1
    exact ⟨a, b, e0, e1, (py_u64_wf wa).1, (py_u64_wf wb).1⟩
set_option maxRecDepth 100000 in
/-- An argument that is nine pairs of numbers. -/
theorem open_parts8 {H : Type} {enc : TypeId × Value → H} {w : World} {base : Nat} {spare : Nat → Bool} {held : Bool} {r : Reach} {b0 : Nat} {v : Value} {d : DataW H} {p : List MemPlace} (hv : Value.okWide Try.prog w r b0 41 v) (h : DataW.Trod enc Try.prog w base spare held 41 v d p) :
    ∃ P : Nat → Int, v = .agg #[.int .u64 (P 0), .int .u64 (P 1), .int .u64 (P 2), .int .u64 (P 3), .int .u64 (P 4), .int .u64 (P 5), .int .u64 (P 6), .int .u64 (P 7), .int .u64 (P 8), .int .u64 (P 9), .int .u64 (P 10), .int .u64 (P 11), .int .u64 (P 12), .int .u64 (P 13), .int .u64 (P 14), .int .u64 (P 15), .int .u64 (P 16), .int .u64 (P 17)] ∧ ∀ i, 0 ≤ P i := by
  have ht : Try.prog.underlying 41 = some (.array 9 40) := by kernel_rfl
  obtain ⟨cs, rfl, hsz⟩ := okWide_array8 ht hv
  obtain ⟨fuel, hf⟩ := h
  obtain ⟨L⟩ := cs
  match L, hsz.trans py_cellsParts with
  | [c0, c1, c2, c3, c4, c5, c6, c7, c8, c9, c10, c11, c12, c13, c14, c15, c16, c17], _ =>
    obtain ⟨xs, m, _, _, _, hl, hx⟩ := DataW.trod_array ht (show DataW.trod enc Try.prog w base spare held fuel 41 [c0, c1, c2, c3, c4, c5, c6, c7, c8, c9, c10, c11, c12, c13, c14, c15, c16, c17] = some (d, p) by simpa [Value.cells] using hf)
    rw [py_cellsPair] at hx
    match xs, hl with
    | [y0, y1, y2, y3, y4, y5, y6, y7, y8], _ =>
      obtain ⟨a0, a1, rfl, rfl, g0, g1⟩ := py_trod_pair (show DataW.trod enc Try.prog w base spare held m 40 [c0, c1] = some y0 by simpa using hx 0 (by omega))
      obtain ⟨a2, a3, rfl, rfl, g2, g3⟩ := py_trod_pair (show DataW.trod enc Try.prog w base spare held m 40 [c2, c3] = some y1 by simpa using hx 1 (by omega))
      obtain ⟨a4, a5, rfl, rfl, g4, g5⟩ := py_trod_pair (show DataW.trod enc Try.prog w base spare held m 40 [c4, c5] = some y2 by simpa using hx 2 (by omega))
      obtain ⟨a6, a7, rfl, rfl, g6, g7⟩ := py_trod_pair (show DataW.trod enc Try.prog w base spare held m 40 [c6, c7] = some y3 by simpa using hx 3 (by omega))
      obtain ⟨a8, a9, rfl, rfl, g8, g9⟩ := py_trod_pair (show DataW.trod enc Try.prog w base spare held m 40 [c8, c9] = some y4 by simpa using hx 4 (by omega))
      obtain ⟨a10, a11, rfl, rfl, g10, g11⟩ := py_trod_pair (show DataW.trod enc Try.prog w base spare held m 40 [c10, c11] = some y5 by simpa using hx 5 (by omega))
      obtain ⟨a12, a13, rfl, rfl, g12, g13⟩ := py_trod_pair (show DataW.trod enc Try.prog w base spare held m 40 [c12, c13] = some y6 by simpa using hx 6 (by omega))
      obtain ⟨a14, a15, rfl, rfl, g14, g15⟩ := py_trod_pair (show DataW.trod enc Try.prog w base spare held m 40 [c14, c15] = some y7 by simpa using hx 7 (by omega))
      obtain ⟨a16, a17, rfl, rfl, g16, g17⟩ := py_trod_pair (show DataW.trod enc Try.prog w base spare held m 40 [c16, c17] = some y8 by simpa using hx 8 (by omega))
      refine ⟨fun i => [a0, a1, a2, a3, a4, a5, a6, a7, a8, a9, a10, a11, a12, a13, a14, a15, a16, a17].getD i 0, rfl, fun i => ?_⟩
      have hall : ∀ x ∈ [a0, a1, a2, a3, a4, a5, a6, a7, a8, a9, a10, a11, a12, a13, a14, a15, a16, a17], 0 ≤ x := by simp; omega
      simp only [List.getD_eq_getElem?_getD]
      cases h : [a0, a1, a2, a3, a4, a5, a6, a7, a8, a9, a10, a11, a12, a13, a14, a15, a16, a17][i]? with
      | none => simp
      | some x => exact hall x (List.mem_of_getElem? h)
end Go.Proofs.Ytdaignklmbmcnaa
