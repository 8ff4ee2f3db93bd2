/-
  SpanNarrows: for every input the call returns true, and each argument reads afterwards as it read before; the one listed variable (the powers of ten of package fix) is tied to the program's text. No further condition.
-/
import Derived.Test.YtpfmhpmpjejdcaaDoorSpPl
import Derived.Test.YtpfmhpmpjejdcaaDoorSpAH
namespace Go.Proofs.YtpfmhpmpjejdcaaDoor
open Go.ChangeShapes Go.WideShapes Go.ChangeAt Go.WideMaps Go.WideElems Go.RowKit Go.Joins

set_option maxRecDepth 100000 in
theorem spanNarrows_lifted (os : Os) (started : os.Started) (H : Type) (enc : TypeId × Value → H) :
    ReturnsInHanded {} Tryd.checked os 8 .any (fun w args => (Rows.spanNarrowsSpec.pre enc Tryd.prog Tryd.f8 [] false w args ∧ laidMetH Tryd.prog laidTens w) ∧ sizedMet enc Tryd.prog Tryd.f8 (OpenSpec.ofChange Rows.spanNarrowsSpec) false w args)
      (Rows.spanNarrowsSpec.post enc Tryd.prog Tryd.f8 false true false false) := by
  refine returnsInHanded_of_change_and (C := Tryd.checked) (X := fun w _ => laidMetH Tryd.prog laidTens w) (fun _ _ _ hh h => h.of_heap hh) own started (by kernel_rfl) Tryd.func8
    (ChangeSpec.witness_shaped (enc := enc) (C := Tryd.checked) (os := os) (X := fun w _ => laidMetH Tryd.prog laidTens w) false (World.doorLaid Tryd.prog 400 os) #[.agg #[.int .i64 0, .int .i64 0, .int .i64 0, .int .i64 0, .int .i64 0, .int .u8 0, .int .u32 0, .int .i64 0, .int .u8 0, .int .u32 0], .agg #[.int .u64 0, .int .u64 0], .agg #[.int .u64 0, .int .u64 0], .int .i64 0] 8 rfl (World.shaped_of_RefB (by kernel_rfl) (by kernel_rfl)) (by kernel_rfl) (by kernel_rfl) (by kernel_rfl) (door_met os _)) ?_
  intro W base args ds gs before hval0 hW _ _ hL _
  have hval : ∀ (j : Nat) t v, Tryd.f8.params[j]? = some t → args[j]? = some v → Value.okWide Tryd.prog W .any base t v := hval0
  have hW' := hW
  obtain ⟨p, q, hA0, hV, rfl, hfz, hnd⟩ := hW
  have hA : DataW.TrodAll enc Tryd.prog W 0 (fun _ => true) true Tryd.f8.params.toList args.toList ds p := hA0
  rw [Tryd.params8] at hA hval
  obtain ⟨v0, v1, v2, v3, d0, d1, d2, d3, p0, p1, p2, p3, rfl, rfl, rfl, h0, h1, h2, h3⟩ := trodAll_four hA
  obtain ⟨rfl, rfl⟩ := trodVars_none hV
  have k0 := h0
  obtain ⟨a, b, c, d, x, y, z, x', y', z', rfl, rfl, y0, y1, z0, z1, y0', y1', z0', z1', wa, wb, wc, wd⟩ := open_two (hval 0 40 v0 rfl rfl) h0
  have k1 := h1
  obtain ⟨V1, W1, rfl, rfl, V10, V11, W10, W11⟩ := open_places (hval 1 54 v1 rfl rfl) h1
  have k2 := h2
  obtain ⟨V2, W2, rfl, rfl, V20, V21, W20, W21⟩ := open_places (hval 2 54 v2 rfl rfl) h2
  have k3 := h3
  obtain ⟨n, rfl, rfl, rfl, wn⟩ := open_int Tryd.underlying3 (hval 3 3 v3 rfl rfl) h3
  have hT := tens_of_laid hL
  clear hA0 hval0
  simp only [List.append_nil] at hW'
  refine (spanNarrows_true a b c d x y z x' y' z' V1 W1 V2 W2 n W hT y0 y1 z0 z1 y0' y1' z0' z1' V10 V11 W10 W11 V20 V21 W20 W21).mono fun e W' ⟨he, hB⟩ => ?_
  subst he
  refine ⟨_, rfl, _, _, _, [], [], [], hW', ?_, ?_, ?_, hB.frame _, fun h => by cases h⟩
  · exact trodAll_mk1 (shut_bool Tryd.underlying4 _)
  · exact trodAll_mk4 (Below.trod (by kernel_rfl) (by kernel_rfl) (by decide +kernel) k0 hB (fun _ h => by cases h)) (Below.trod (by kernel_rfl) (by kernel_rfl) (by decide +kernel) k1 hB (fun _ h => by cases h)) (Below.trod (by kernel_rfl) (by kernel_rfl) (by decide +kernel) k2 hB (fun _ h => by cases h)) (Below.trod (by kernel_rfl) (by kernel_rfl) (by decide +kernel) k3 hB (fun _ h => by cases h))
  · rfl

theorem spanNarrows_row : Rows.SpanNarrowsSaid :=
  OpenClaim.holds_of_wide 8 Tryd.f8 rfl rfl rfl rfl rfl rfl rfl ⟨rfl, rfl, rfl, rfl, rfl⟩ rfl rfl rfl rfl rfl (by kernel_rfl) Tryd.func8 (by kernel_rfl)
    (of_decide_eq_true (by kernel_rfl)) (by unfold Func.isWrapper; first | (rw [if_pos (by decide +kernel)]; kernel_rfl) | (rw [if_neg (by decide +kernel)]; exact ⟨rfl, rfl⟩))
    (fun os started H enc _ => spanNarrows_lifted os started H enc)

theorem spanNarrows_holds : Rows.SpanNarrowsCardSaid :=
  Claim7.holds_tied_plain_at .later [] [.data] true (true, "1a1933a62f070ac687e898e275650cf4c3a7b74e27a342d56dd662dea445d06a") false
    spanNarrows_row (fun _ h => by cases h) (by kernel_rfl) (fun _ h => by cases h) spanNarrows_row_tie rfl ⟨rfl, rfl⟩ (by kernel_rfl) rfl
    (fun f fn hf hfn => by
      obtain rfl : f = 8 := Option.some.inj ((show Tryd.prog.funcNamed "monocle/monoclelaw02.SpanNarrows" = some 8 by kernel_rfl).symm.trans hf) |>.symm
      obtain rfl : fn = Tryd.f8 := (Option.some.inj (Tryd.func8.symm.trans hfn)).symm
      exact ⟨by kernel_rfl, fun j t ht => by
        rw [Tryd.params8] at ht
        have hm : t ∈ [40, 54, 54, 3] := by simpa using Array.mem_of_getElem? ht
        have hall : ([40, 54, 54, 3].all fun u => !Tryd.prog.wantsStandIn u) = true := by kernel_rfl
        exact (show Tryd.prog.wantsStandIn t = false by simpa using List.all_eq_true.1 hall t hm)⟩)
    (by kernel_rfl)
#print axioms spanNarrows_holds
end Go.Proofs.YtpfmhpmpjejdcaaDoor
