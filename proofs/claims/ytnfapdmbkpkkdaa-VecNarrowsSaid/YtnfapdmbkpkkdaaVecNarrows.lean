/-
  VecNarrows: for every input the call returns true, and each argument reads afterwards as it read before. No further condition.
-/
import Derived.Test.YtnfapdmbkpkkdaaRows
import Derived.Test.YtnfapdmbkpkkdaaVcW
import Derived.Test.YtnfapdmbkpkkdaaVcO
import Derived.WalkKit
import Derived.ProofKit
import Derived.OpenShut
namespace Go.Proofs.Ytnfapdmbkpkkdaa
open Go.ChangeShapes Go.WideShapes Go.ChangeAt Go.RowKit

theorem own6 : ownKnob Try.prog.godebug = none := by kernel_rfl
set_option maxRecDepth 100000 in
theorem vecNarrows_lifted (os : Os) (started : os.Started) (H : Type) (enc : TypeId × Value → H) :
    ReturnsInHanded {} Try.checked os 3 .any (Rows.vecNarrowsSpec.pre6 enc Try.prog Try.f3 Rows.vecNarrowsRow.domain false) (Rows.vecNarrowsSpec.post enc Try.prog Try.f3 false true false false) := by
  refine returnsInHanded_of_change (C := Try.checked) own6 started (by kernel_rfl) Try.func3
    (ChangeSpec.witness6 (enc := enc) (C := Try.checked) false ⟨#[], #[.agg #[.int .i64 0, .int .i64 0, .int .i64 0, .int .i64 0, .int .i64 0, .int .i64 0, .int .i64 0, .int .i64 0, .int .i64 0, .int .i64 0, .int .i64 0, .int .i64 0, .int .i64 0, .int .u8 0, .int .u32 0, .int .i64 0, .int .u8 0, .int .u32 0, .int .i64 0, .int .u8 0, .int .u32 0, .int .i64 0, .int .u8 0, .int .u32 0, .int .i64 0, .int .u8 0, .int .u32 0, .int .i64 0, .int .u8 0, .int .u32 0], .agg #[.int .u64 0, .int .u64 0, .int .u64 0, .int .u64 0, .int .u64 0, .int .u64 0], .agg #[.int .u64 0, .int .u64 0, .int .u64 0, .int .u64 0, .int .u64 0, .int .u64 0]], []⟩ 8 (by kernel_rfl) (by kernel_rfl) (by kernel_rfl) (by kernel_rfl)) ?_
  intro W base args ds gs before hval0 hW hcnd _
  have hval : ∀ (j : Nat) t v, Try.f3.params[j]? = some t → args[j]? = some v → Value.okWide Try.prog W .any base t v := hval0
  have hW' := hW
  obtain ⟨p, q, hA0, hV, rfl, hfz, hnd⟩ := hW
  have hA : DataW.TrodAll enc Try.prog W 0 (fun _ => true) true Try.f3.params.toList args.toList ds p := hA0
  rw [Try.params3] at hA hval
  obtain ⟨v0, v1, v2, d0, d1, d2, p0, p1, p2, rfl, rfl, rfl, h0, h1, h2⟩ := trodAll_three hA
  obtain ⟨rfl, rfl⟩ := trodVars_none hV
  have k0 := h0
  have k1 := h1
  have k2 := h2
  obtain ⟨a0, a1, a2, a3, a4, a5, e0, e1, e2, e3, e4, e5, x0, y0, z0, x1, y1, z1, x2, y2, z2, x3, y3, z3, x4, y4, z4, x5, y5, z5, rfl, rfl, y0_0, y0_1, z0_0, z0_1, y1_0, y1_1, z1_0, z1_1, y2_0, y2_1, z2_0, z2_1, y3_0, y3_1, z3_0, z3_1, y4_0, y4_1, z4_0, z4_1, y5_0, y5_1, z5_0, z5_1⟩ := open_two6 (hval 0 32 v0 rfl rfl) h0
  obtain ⟨m1_0, m1_1, m1_2, m1_3, m1_4, m1_5, rfl, rfl, m1_0l, m1_0h, m1_1l, m1_1h, m1_2l, m1_2h, m1_3l, m1_3h, m1_4l, m1_4h, m1_5l, m1_5h⟩ := open_parts (hval 1 36 v1 rfl rfl) h1
  obtain ⟨m2_0, m2_1, m2_2, m2_3, m2_4, m2_5, rfl, rfl, m2_0l, m2_0h, m2_1l, m2_1h, m2_2l, m2_2h, m2_3l, m2_3h, m2_4l, m2_4h, m2_5l, m2_5h⟩ := open_parts (hval 2 36 v2 rfl rfl) h2
  clear hA0 hval0
  simp only [List.append_nil] at hW'
  refine (vecNarrows_true a0 a1 a2 a3 a4 a5 e0 e1 e2 e3 e4 e5 x0 y0 z0 x1 y1 z1 x2 y2 z2 x3 y3 z3 x4 y4 z4 x5 y5 z5 m1_0 m1_1 m1_2 m1_3 m1_4 m1_5 m2_0 m2_1 m2_2 m2_3 m2_4 m2_5 W y0_0 y0_1 z0_0 z0_1 y1_0 y1_1 z1_0 z1_1 y2_0 y2_1 z2_0 z2_1 y3_0 y3_1 z3_0 z3_1 y4_0 y4_1 z4_0 z4_1 y5_0 y5_1 z5_0 z5_1 m1_0l m1_1l m1_2l m1_3l m1_4l m1_5l m2_0l m2_1l m2_2l m2_3l m2_4l m2_5l).mono fun e W' ⟨he, hB⟩ => ?_
  subst he
  refine ⟨_, rfl, _, _, _, [], [], [], hW', ?_, ?_, ?_, hB.frame _, fun h => by cases h⟩
  · exact trodAll_mk1 (shut_bool Try.underlying4 _)
  · exact trodAll_mk3 (Below.trod (by kernel_rfl) (by kernel_rfl) (by decide +kernel) k0 hB (fun _ h => by cases h)) (Below.trod (by kernel_rfl) (by kernel_rfl) (by decide +kernel) k1 hB (fun _ h => by cases h)) (Below.trod (by kernel_rfl) (by kernel_rfl) (by decide +kernel) k2 hB (fun _ h => by cases h))
  · rfl

theorem vecNarrows_holds : Rows.VecNarrowsSaid :=
  OpenClaim.holds_of_wide 3 Try.f3 rfl rfl rfl rfl rfl rfl rfl ⟨rfl, rfl, rfl, rfl, rfl⟩ rfl rfl rfl rfl rfl (by kernel_rfl) Try.func3 (by kernel_rfl)
    (of_decide_eq_true (by kernel_rfl)) (by unfold Func.isWrapper; first | (rw [if_pos (by decide +kernel)]; kernel_rfl) | (rw [if_neg (by decide +kernel)]; exact ⟨rfl, rfl⟩))
    (fun os started H enc _ => vecNarrows_lifted os started H enc)
#print axioms vecNarrows_holds
end Go.Proofs.Ytnfapdmbkpkkdaa
