/-
  PolyEvals: for every input the call returns true, and each argument reads afterwards as it read before. No further condition.
-/
import Derived.Test.YtdaignklmbmcnaaRows
import Derived.Test.YtdaignklmbmcnaaPyT
import Derived.Test.YtdaignklmbmcnaaPyO
import Derived.WalkKit
import Derived.ProofKit
import Derived.OpenShut
import Derived.Carry
namespace Go.Proofs.Ytdaignklmbmcnaa
open Go.ChangeShapes Go.WideShapes Go.ChangeAt Go.WideMaps Go.WideElems Go.RowKit Go.Joins

theorem own8 : ownKnob Try.prog.godebug = none := by kernel_rfl
set_option maxRecDepth 100000 in
theorem polyEvals_lifted (os : Os) (started : os.Started) (H : Type) (enc : TypeId × Value → H) :
    ReturnsInHanded {} Try.checked os 3 .any (Rows.polyEvalsSpec.pre6 enc Try.prog Try.f3 Rows.polyEvalsRow.domain false) (Rows.polyEvalsSpec.post enc Try.prog Try.f3 false true false false) := by
  refine returnsInHanded_of_change (C := Try.checked) own8 started (by kernel_rfl) Try.func3
    (ChangeSpec.witness6 (enc := enc) (C := Try.checked) false ⟨#[], #[.slice none 0 0, .agg #[.int .i64 0, .int .i64 0], .slice none 0 0, .agg #[.int .i64 0, .int .u8 0, .int .u32 0]], []⟩ 8 (by kernel_rfl) (by kernel_rfl) (by kernel_rfl) (by kernel_rfl)) ?_
  intro W base args ds gs before hval0 hW hcnd _
  have hval : ∀ (j : Nat) t v, Try.f3.params[j]? = some t → args[j]? = some v → Value.okWide Try.prog W .any base t v := hval0
  have hW' := hW
  obtain ⟨p, q, hA0, hV, rfl, hfz, hnd⟩ := hW
  have hA : DataW.TrodAll enc Try.prog W 0 (fun _ => true) true Try.f3.params.toList args.toList ds p := hA0
  rw [Try.params3] at hA hval
  obtain ⟨v0, v1, v2, v3, d0, d1, d2, d3, p0, p1, p2, p3, rfl, rfl, rfl, h0, h1, h2, h3⟩ := trodAll_four hA
  obtain ⟨rfl, rfl⟩ := trodVars_none hV
  have k0 := h0
  have k1 := h1
  have k2 := h2
  have k3 := h3
  have lt0 : ∀ x ∈ p0, x.block < W.heap.size := fun x hx => hW'.lt x (by simp only [List.append_nil, List.mem_append]; simp [hx])
  have lt1 : ∀ x ∈ p1, x.block < W.heap.size := fun x hx => hW'.lt x (by simp only [List.append_nil, List.mem_append]; simp [hx])
  have lt2 : ∀ x ∈ p2, x.block < W.heap.size := fun x hx => hW'.lt x (by simp only [List.append_nil, List.mem_append]; simp [hx])
  have lt3 : ∀ x ∈ p3, x.block < W.heap.size := fun x hx => hW'.lt x (by simp only [List.append_nil, List.mem_append]; simp [hx])
  obtain ⟨l0, hl0, hb0⟩ := open_spans (hval 0 22 v0 rfl rfl) h0
  obtain ⟨x1, y1, rfl, hx1, hy1⟩ := open_span8 (hval 1 24 v1 rfl rfl) h1
  obtain ⟨D2, hD2⟩ := open_drafts (hval 2 25 v2 rfl rfl) h2
  obtain ⟨x3, y3, z3, rfl, g3⟩ := open_draft8 (hval 3 28 v3 rfl rfl) h3
  clear hA0 hval0
  simp only [List.append_nil] at hW'
  refine (polyEvals_true v0 l0 x1 y1 v2 D2 x3 y3 z3 W hl0 hb0 hD2 g3).mono fun e W' ⟨he, hB⟩ => ?_
  subst he
  refine ⟨_, rfl, _, _, _, [], _, [], hW', ?_, (trodAll_mk4 (Below.trod (by kernel_rfl) (by kernel_rfl) (by decide +kernel) k0 hB lt0) (Below.trod (by kernel_rfl) (by kernel_rfl) (by decide +kernel) k1 hB lt1) (Below.trod (by kernel_rfl) (by kernel_rfl) (by decide +kernel) k2 hB lt2) (Below.trod (by kernel_rfl) (by kernel_rfl) (by decide +kernel) k3 hB lt3)), ?_, hB.frame _, fun h => by cases h⟩
  · exact trodAll_mk1 (shut_bool Try.underlying4 _)
  · rfl

theorem polyEvals_holds : Rows.PolyEvalsSaid :=
  OpenClaim.holds_of_wide 3 Try.f3 rfl rfl rfl rfl rfl rfl rfl ⟨rfl, rfl, rfl, rfl, rfl⟩ rfl rfl rfl rfl rfl (by kernel_rfl) Try.func3 (by kernel_rfl)
    (of_decide_eq_true (by kernel_rfl)) (by unfold Func.isWrapper; first | (rw [if_pos (by decide +kernel)]; kernel_rfl) | (rw [if_neg (by decide +kernel)]; exact ⟨rfl, rfl⟩))
    (fun os started H enc _ => polyEvals_lifted os started H enc)
#print axioms polyEvals_holds
end Go.Proofs.Ytdaignklmbmcnaa
