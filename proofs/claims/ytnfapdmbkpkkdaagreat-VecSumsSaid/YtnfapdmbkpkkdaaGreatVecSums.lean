/-
  VecSums: for every input the call returns true, and each argument reads afterwards as it read before. No further condition.
-/
import Derived.Test.YtnfapdmbkpkkdaaGreatRows
import Derived.Test.YtnfapdmbkpkkdaaGreatVrF
import Derived.Test.YtnfapdmbkpkkdaaGreatVcO
import Derived.WalkKit
import Derived.ProofKit
import Derived.OpenShut
namespace Go.Proofs.YtnfapdmbkpkkdaaGreat
open Go.ChangeShapes Go.WideShapes Go.ChangeAt Go.RowKit

theorem arr2 {α : Type} {cs : Array α} (h : cs.size = 2) : ∃ c0 c1, cs = #[c0, c1] := by
  obtain ⟨l⟩ := cs
  match l, h with
  | [c0, c1], _ => exact ⟨c0, c1, rfl⟩
theorem arr3 {α : Type} {cs : Array α} (h : cs.size = 3) : ∃ c0 c1 c2, cs = #[c0, c1, c2] := by
  obtain ⟨l⟩ := cs
  match l, h with
  | [c0, c1, c2], _ => exact ⟨c0, c1, c2, rfl⟩
set_option maxRecDepth 100000 in
theorem open_span6 {H : Type} {enc : TypeId × Value → H} {w : World} {base : Nat} {spare : Nat → Bool} {held : Bool} {r : Reach} {b0 : Nat} {v : Value} {d : DataW H} {p : List MemPlace} (hv : Value.okWide Tryz.prog w r b0 23 v) (h : DataW.Trod enc Tryz.prog w base spare held 23 v d p) :
    ∃ a b : Int, v = .agg #[.int .i64 a, .int .i64 b] ∧ p = [] := by
  obtain ⟨cs, rfl, hsz⟩ := okWide_struct Tryz.underlying23 hv
  obtain ⟨c0, c1, rfl⟩ := arr2 (hsz.trans Tryz.cellsSpan)
  obtain ⟨fuel, hf⟩ := h
  obtain ⟨a, b, rfl, rfl, e, _, _⟩ := trod_span (show DataW.trod enc Tryz.prog w base spare held fuel 23 [c0, c1] = some (d, p) by simpa [Value.cells] using hf)
  exact ⟨a, b, rfl, e⟩
set_option maxRecDepth 100000 in
theorem open_draft2 {H : Type} {enc : TypeId × Value → H} {w : World} {base : Nat} {spare : Nat → Bool} {held : Bool} {r : Reach} {b0 : Nat} {v : Value} {d : DataW H} {p : List MemPlace} (hv : Value.okWide Tryz.prog w r b0 28 v) (h : DataW.Trod enc Tryz.prog w base spare held 28 v d p) :
    ∃ a b c : Int, v = .agg #[.int .i64 a, .int .u8 b, .int .u32 c] ∧ p = [] ∧ 0 ≤ b ∧ b ≤ 255 ∧ 0 ≤ c ∧ c ≤ 4294967295 := by
  obtain ⟨cs, rfl, hsz⟩ := okWide_struct Tryz.underlying28 hv
  obtain ⟨c0, c1, c2, rfl⟩ := arr3 (hsz.trans Tryz.cellsDraft)
  obtain ⟨fuel, hf⟩ := h
  obtain ⟨a, b, c, rfl, rfl, rfl, e, _, wb, wc⟩ := trod_draft (show DataW.trod enc Tryz.prog w base spare held fuel 28 [c0, c1, c2] = some (d, p) by simpa [Value.cells] using hf)
  have hb := u8_of_wf wb
  have hc := u32_of_wf wc
  exact ⟨a, b, c, rfl, e, hb.1, hb.2, hc.1, hc.2⟩
theorem own6 : ownKnob Tryz.prog.godebug = none := by kernel_rfl
set_option maxRecDepth 100000 in
theorem vecSums_lifted (os : Os) (started : os.Started) (H : Type) (enc : TypeId × Value → H) :
    ReturnsInHanded {} Tryz.checked os 3 .any (Rows.vecSumsSpec.pre6 enc Tryz.prog Tryz.f3 Rows.vecSumsRow.domain false) (Rows.vecSumsSpec.post enc Tryz.prog Tryz.f3 false true false false) := by
  refine returnsInHanded_of_change (C := Tryz.checked) own6 started (by kernel_rfl) Tryz.func3
    (ChangeSpec.witness6 (enc := enc) (C := Tryz.checked) false ⟨#[], #[.agg #[.int .i64 0, .int .i64 0, .int .i64 0, .int .i64 0, .int .i64 0, .int .i64 0, .int .i64 0, .int .i64 0, .int .i64 0, .int .i64 0, .int .i64 0, .int .i64 0, .int .i64 0, .int .u8 0, .int .u32 0, .int .i64 0, .int .u8 0, .int .u32 0, .int .i64 0, .int .u8 0, .int .u32 0, .int .i64 0, .int .u8 0, .int .u32 0, .int .i64 0, .int .u8 0, .int .u32 0, .int .i64 0, .int .u8 0, .int .u32 0], .agg #[.int .i64 0, .int .i64 0], .agg #[.int .i64 0, .int .u8 0, .int .u32 0]], []⟩ 8 (by kernel_rfl) (by kernel_rfl) (by kernel_rfl) (by kernel_rfl)) ?_
  intro W base args ds gs before hval0 hW hcnd _
  have hval : ∀ (j : Nat) t v, Tryz.f3.params[j]? = some t → args[j]? = some v → Value.okWide Tryz.prog W .any base t v := hval0
  have hW' := hW
  obtain ⟨p, q, hA0, hV, rfl, hfz, hnd⟩ := hW
  have hA : DataW.TrodAll enc Tryz.prog W 0 (fun _ => true) true Tryz.f3.params.toList args.toList ds p := hA0
  rw [Tryz.params3] at hA hval
  obtain ⟨v0, v1, v2, d0, d1, d2, p0, p1, p2, rfl, rfl, rfl, h0, h1, h2⟩ := trodAll_three hA
  obtain ⟨rfl, rfl⟩ := trodVars_none hV
  have k0 := h0
  have k1 := h1
  have k2 := h2
  obtain ⟨a0, a1, a2, a3, a4, a5, e0, e1, e2, e3, e4, e5, x0, y0, z0, x1, y1, z1, x2, y2, z2, x3, y3, z3, x4, y4, z4, x5, y5, z5, rfl, rfl, y0_0, y0_1, z0_0, z0_1, y1_0, y1_1, z1_0, z1_1, y2_0, y2_1, z2_0, z2_1, y3_0, y3_1, z3_0, z3_1, y4_0, y4_1, z4_0, z4_1, y5_0, y5_1, z5_0, z5_1⟩ := open_two6 (hval 0 32 v0 rfl rfl) h0
  obtain ⟨sa, sb, rfl, rfl⟩ := open_span6 (hval 1 23 v1 rfl rfl) h1
  obtain ⟨dx, dy, dz, rfl, rfl, dy0, dy1, dz0, dz1⟩ := open_draft2 (hval 2 28 v2 rfl rfl) h2
  clear hA0 hval0
  simp only [List.append_nil] at hW'
  refine (vecSums_true a0 a1 a2 a3 a4 a5 e0 e1 e2 e3 e4 e5 x0 y0 z0 x1 y1 z1 x2 y2 z2 x3 y3 z3 x4 y4 z4 x5 y5 z5 sa sb dx dy dz W y0_0 y0_1 z0_0 z0_1 y1_0 y1_1 z1_0 z1_1 y2_0 y2_1 z2_0 z2_1 y3_0 y3_1 z3_0 z3_1 y4_0 y4_1 z4_0 z4_1 y5_0 y5_1 z5_0 z5_1 dy0 dy1 dz0 dz1).mono fun e W' ⟨he, hB⟩ => ?_
  subst he
  refine ⟨_, rfl, _, _, _, [], [], [], hW', ?_, ?_, ?_, hB.frame _, fun h => by cases h⟩
  · exact trodAll_mk1 (shut_bool Tryz.underlying4 _)
  · exact trodAll_mk3 (Below.trod (by kernel_rfl) (by kernel_rfl) (by decide +kernel) k0 hB (fun _ h => by cases h)) (Below.trod (by kernel_rfl) (by kernel_rfl) (by decide +kernel) k1 hB (fun _ h => by cases h)) (Below.trod (by kernel_rfl) (by kernel_rfl) (by decide +kernel) k2 hB (fun _ h => by cases h))
  · rfl

theorem vecSums_holds : Rows.VecSumsSaid :=
  OpenClaim.holds_of_wide 3 Tryz.f3 rfl rfl rfl rfl rfl rfl rfl ⟨rfl, rfl, rfl, rfl, rfl⟩ rfl rfl rfl rfl rfl (by kernel_rfl) Tryz.func3 (by kernel_rfl)
    (of_decide_eq_true (by kernel_rfl)) (by unfold Func.isWrapper; first | (rw [if_pos (by decide +kernel)]; kernel_rfl) | (rw [if_neg (by decide +kernel)]; exact ⟨rfl, rfl⟩))
    (fun os started H enc _ => vecSums_lifted os started H enc)
#print axioms vecSums_holds
end Go.Proofs.YtnfapdmbkpkkdaaGreat
