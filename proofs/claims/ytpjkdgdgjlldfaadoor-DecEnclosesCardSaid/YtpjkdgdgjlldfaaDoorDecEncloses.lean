/-
  DecEncloses: for every input the call returns true, and each argument reads afterwards as it read before; the six listed variables of Go's library are tied to the program's text. No further condition.
-/
import Derived.Test.YtpjkdgdgjlldfaaDoorDcOs
namespace Go.Proofs.YtpjkdgdgjlldfaaDoor
open Go.ChangeShapes Go.WideShapes Go.ChangeAt Go.WideMaps Go.WideElems Go.RowKit Go.Joins

set_option maxRecDepth 100000 in
theorem decEncloses_lifted (os : Os) (started : os.Started) (H : Type) (enc : TypeId × Value → H) :
    ReturnsInHanded {} Tryd.checked os 5 .any (fun w args => (Rows.decEnclosesSpec.pre enc Tryd.prog Tryd.f5 [] false w args ∧ laidMetH Tryd.prog laid6 w) ∧ sizedMet enc Tryd.prog Tryd.f5 (OpenSpec.ofChange Rows.decEnclosesSpec) false w args)
      (Rows.decEnclosesSpec.post enc Tryd.prog Tryd.f5 false true false false) := by
  refine returnsInHanded_of_change_and (C := Tryd.checked) (X := fun w _ => laidMetH Tryd.prog laid6 w) (fun _ _ _ hh h => h.of_heap hh) own5 started (by kernel_rfl) Tryd.func5
    (ChangeSpec.witness_shaped (enc := enc) (C := Tryd.checked) (os := os) (X := fun w _ => laidMetH Tryd.prog laid6 w) false (World.doorLaid Tryd.prog 400 os) #[.int .i64 0, .agg #[.int .i64 0, .int .u8 0, .int .u32 0], .int .i64 0] 8 rfl (World.shaped_of_RefB (by kernel_rfl) (by kernel_rfl)) (by kernel_rfl) (by kernel_rfl) (by kernel_rfl) (door_met6 os _)) ?_
  intro W base args ds gs before hval0 hW _ _ hL _
  have hval : ∀ (j : Nat) t v, Tryd.f5.params[j]? = some t → args[j]? = some v → Value.okWide Tryd.prog W .any base t v := hval0
  have hW' := hW
  obtain ⟨p, q, hA0, hV, rfl, hfz, hnd⟩ := hW
  have hA : DataW.TrodAll enc Tryd.prog W 0 (fun _ => true) true Tryd.f5.params.toList args.toList ds p := hA0
  rw [Tryd.params5] at hA hval
  obtain ⟨v0, v1, v2, d0, d1, d2, p0, p1, p2, rfl, rfl, rfl, h0, h1, h2⟩ := trodAll_three hA
  obtain ⟨rfl, rfl⟩ := trodVars_none hV
  have lt0 : ∀ x ∈ p0, x.block < W.heap.size := fun x hx => hW'.lt x (by simp only [List.append_nil, List.mem_append]; simp [hx])
  have lt1 : ∀ x ∈ p1, x.block < W.heap.size := fun x hx => hW'.lt x (by simp only [List.append_nil, List.mem_append]; simp [hx])
  have lt2 : ∀ x ∈ p2, x.block < W.heap.size := fun x hx => hW'.lt x (by simp only [List.append_nil, List.mem_append]; simp [hx])
  have k0 := h0
  obtain ⟨m, rfl, rfl, rfl, wm⟩ := open_int Tryd.underlying3 (hval 0 3 v0 rfl rfl) h0
  have k1 := h1
  obtain ⟨y0_, y1_, y2_, z0_, z1_, z2_, m_, rfl, rfl, rfl, hz0_, hz1_, hz2_⟩ := open_agg3 Tryd.underlying39 (by kernel_rfl) Tryd.cellsDraft (hval 1 39 v1 rfl rfl) h1
  obtain ⟨x, ey0_, rfl, wx⟩ := DataW.trod_int Tryd.underlying3 hz0_
  obtain ⟨y, ey1_, rfl, wy⟩ := DataW.trod_int Tryd.underlying5 hz1_
  obtain ⟨z, ey2_, rfl, wz⟩ := DataW.trod_int Tryd.underlying37 hz2_
  simp at ey0_ ey1_ ey2_
  subst ey0_ ey1_ ey2_
  have k2 := h2
  obtain ⟨n, rfl, rfl, rfl, wn⟩ := open_int Tryd.underlying3 (hval 2 3 v2 rfl rfl) h2
  have hP := pow_of_laid6 hL
  have hE := er_of_laid6 hL
  have hT := tens_of_laid6 hL
  clear hA0 hval0
  simp only [List.append_nil] at hW'
  refine (decEncloses_true m x y z n W (i64_wf wm).1 (i64_wf wm).2 (u8_wf wy).1 (u8_wf wy).2 (u32_wf wz).1 (u32_wf wz).2 (i64_wf wn).1 (i64_wf wn).2 hP hE hT).mono fun e W' ⟨he, hB⟩ => ?_
  subst he
  refine ⟨_, rfl, _, _, _, [], _, [], hW', ?_, trodAll_mk3 (Below.trod laidOut5 (by kernel_rfl) (by decide +kernel) k0 hB lt0) (Below.trod laidOut5 (by kernel_rfl) (by decide +kernel) k1 hB lt1) (Below.trod laidOut5 (by kernel_rfl) (by decide +kernel) k2 hB lt2), ?_, hB.frame _, fun h => by cases h⟩
  · exact trodAll_mk1 (shut_bool Tryd.underlying4 _)
  · rfl

theorem decEncloses_row : Rows.DecEnclosesSaid :=
  OpenClaim.holds_of_wide 5 Tryd.f5 rfl rfl rfl rfl rfl rfl rfl ⟨rfl, rfl, rfl, rfl, rfl⟩ rfl rfl rfl rfl rfl (by kernel_rfl) Tryd.func5 (by kernel_rfl)
    (of_decide_eq_true (by kernel_rfl)) (by unfold Func.isWrapper; first | (rw [if_pos (by decide +kernel)]; kernel_rfl) | (rw [if_neg (by decide +kernel)]; exact ⟨rfl, rfl⟩))
    (fun os started H enc _ => decEncloses_lifted os started H enc)

theorem decEncloses_holds : Rows.DecEnclosesCardSaid :=
  Claim7.holds_tied_plain_at .later [] [.data, .data, .data, .data, .sentinel, .sentinel] true (true, "41b96d06d62d6c1a04bb25167aa22be537a33512c1c703075c4f3d75e2164afc") true
    decEncloses_row (fun _ h => by cases h) (by kernel_rfl) (fun _ h => by cases h) decEncloses_row_tie rfl ⟨rfl, rfl⟩ (by kernel_rfl) rfl
    (fun f fn hf hfn => by
      obtain rfl : f = 5 := Option.some.inj ((show Tryd.prog.funcNamed "monocle/monoclelaw05.DecEncloses" = some 5 by kernel_rfl).symm.trans hf) |>.symm
      obtain rfl : fn = Tryd.f5 := (Option.some.inj (Tryd.func5.symm.trans hfn)).symm
      exact ⟨by kernel_rfl, fun j t ht => by
        rw [Tryd.params5] at ht
        have hm : t ∈ [3, 39, 3] := by simpa using Array.mem_of_getElem? ht
        have hall : ([3, 39, 3].all fun u => !Tryd.prog.wantsStandIn u) = true := by kernel_rfl
        exact (show Tryd.prog.wantsStandIn t = false by simpa using List.all_eq_true.1 hall t hm)⟩)
    (by kernel_rfl)
#print axioms decEncloses_holds
end Go.Proofs.YtpjkdgdgjlldfaaDoor
