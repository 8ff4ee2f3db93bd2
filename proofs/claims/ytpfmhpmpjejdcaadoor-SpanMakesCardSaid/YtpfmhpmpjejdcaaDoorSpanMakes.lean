/-
  SpanMakes: for every input the call returns true, and each argument reads afterwards as it read before; the one listed variable (the powers of ten of package fix) is tied to the program's text. No further condition.
-/
import Derived.Test.YtpfmhpmpjejdcaaDoorSpO
import Derived.Test.YtpfmhpmpjejdcaaDoorSpU
namespace Go.Proofs.YtpfmhpmpjejdcaaDoor
open Go.ChangeShapes Go.WideShapes Go.ChangeAt Go.WideMaps Go.WideElems Go.RowKit Go.Joins

theorem Tryd.cellsSpan : Tryd.prog.cellsOf 23 = 2 := by kernel_rfl
theorem Tryd.cellsDraft : Tryd.prog.cellsOf 26 = 3 := by kernel_rfl
theorem i64_of_wf {x : Int} (h : (Lit.int .i64 x).wf = true) : -9223372036854775808 ≤ x ∧ x ≤ 9223372036854775807 := by
  simp [Lit.wf, IntKind.min, IntKind.max, IntKind.signed, IntKind.bits] at h
  omega
theorem u8_of_wf {x : Int} (h : (Lit.int .u8 x).wf = true) : 0 ≤ x ∧ x ≤ 255 := by
  simp [Lit.wf, IntKind.min, IntKind.max, IntKind.signed, IntKind.bits] at h
  omega
theorem u32_of_wf {x : Int} (h : (Lit.int .u32 x).wf = true) : 0 ≤ x ∧ x ≤ 4294967295 := by
  simp [Lit.wf, IntKind.min, IntKind.max, IntKind.signed, IntKind.bits] at h
  omega

set_option maxRecDepth 100000 in
theorem spanMakes_lifted (os : Os) (started : os.Started) (H : Type) (enc : TypeId × Value → H) :
    ReturnsInHanded {} Tryd.checked os 3 .any (fun w args => (Rows.spanMakesSpec.pre enc Tryd.prog Tryd.f3 [] false w args ∧ laidMetH Tryd.prog laidTens w) ∧ sizedMet enc Tryd.prog Tryd.f3 (OpenSpec.ofChange Rows.spanMakesSpec) false w args)
      (Rows.spanMakesSpec.post enc Tryd.prog Tryd.f3 false true false false) := by
  refine returnsInHanded_of_change_and (C := Tryd.checked) (X := fun w _ => laidMetH Tryd.prog laidTens w) (fun _ _ _ hh h => h.of_heap hh) own started (by kernel_rfl) Tryd.func3
    (ChangeSpec.witness_shaped (enc := enc) (C := Tryd.checked) (os := os) (X := fun w _ => laidMetH Tryd.prog laidTens w) false (World.doorLaid Tryd.prog 400 os) #[.agg #[.int .i64 0, .int .i64 0], .int .i64 0, .int .i64 0, .agg #[.int .i64 0, .int .u8 0, .int .u32 0]] 8 rfl (World.shaped_of_RefB (by kernel_rfl) (by kernel_rfl)) (by kernel_rfl) (by kernel_rfl) (by kernel_rfl) (door_met os _)) ?_
  intro W base args ds gs before hval0 hW _ _ hL _
  have hval : ∀ (j : Nat) t v, Tryd.f3.params[j]? = some t → args[j]? = some v → Value.okWide Tryd.prog W .any base t v := hval0
  have hW' := hW
  obtain ⟨p, q, hA0, hV, rfl, hfz, hnd⟩ := hW
  have hA : DataW.TrodAll enc Tryd.prog W 0 (fun _ => true) true Tryd.f3.params.toList args.toList ds p := hA0
  rw [Tryd.params3] at hA hval
  obtain ⟨v0, v1, v2, v3, d0, d1, d2, d3, p0, p1, p2, p3, rfl, rfl, rfl, h0, h1, h2, h3⟩ := trodAll_four hA
  obtain ⟨rfl, rfl⟩ := trodVars_none hV
  obtain ⟨c0, c1, y0, y1, m0, rfl, rfl, rfl, hy0, hy1⟩ := open_agg2 Tryd.underlying23 (by kernel_rfl) Tryd.cellsSpan (hval 0 23 v0 rfl rfl) h0
  obtain ⟨a, ex0, rfl, wa⟩ := DataW.trod_int Tryd.underlying3 hy0
  obtain ⟨b, ex1, rfl, wb⟩ := DataW.trod_int Tryd.underlying3 hy1
  simp at ex0 ex1
  subst ex0 ex1
  obtain ⟨n, rfl, rfl, rfl, wn⟩ := open_int Tryd.underlying3 (hval 1 3 v1 rfl rfl) h1
  obtain ⟨g, rfl, rfl, rfl, wg⟩ := open_int Tryd.underlying3 (hval 2 3 v2 rfl rfl) h2
  obtain ⟨x0, x1, x2, z0, z1, z2, m3, rfl, rfl, rfl, hz0, hz1, hz2⟩ := open_agg3 Tryd.underlying26 (by kernel_rfl) Tryd.cellsDraft (hval 3 26 v3 rfl rfl) h3
  obtain ⟨x, ey0, rfl, wx⟩ := DataW.trod_int Tryd.underlying3 hz0
  obtain ⟨y, ey1, rfl, wy⟩ := DataW.trod_int Tryd.underlying5 hz1
  obtain ⟨z, ey2, rfl, wz⟩ := DataW.trod_int Tryd.underlying24 hz2
  simp at ey0 ey1 ey2
  subst ey0 ey1 ey2
  have hT := tens_of_laid hL
  clear hA0 hval0
  simp only [List.append_nil] at hW'
  refine (spanMakes_true a b n g x y z W hT (i64_of_wf wn).1 (i64_of_wf wn).2 (i64_of_wf wg).1 (i64_of_wf wg).2 (u8_of_wf wy).1 (u8_of_wf wy).2 (u32_of_wf wz).1 (u32_of_wf wz).2).mono fun e W' ⟨he, hB⟩ => ?_
  subst he
  refine ⟨_, rfl, _, _, _, [], [], [], hW', ?_, ?_, ?_, hB.frame _, fun h => by cases h⟩
  · exact trodAll_mk1 (shut_bool Tryd.underlying4 _)
  · exact trodAll_mk4
      (shut_agg2 (y0 := (.lit (.int .i64 a), [])) (y1 := (.lit (.int .i64 b), [])) Tryd.underlying23 (by kernel_rfl) Tryd.cellsSpan ⟨1, by simp [DataW.trod, Tryd.underlying3, wa]⟩ ⟨1, by simp [DataW.trod, Tryd.underlying3, wb]⟩)
      (shut_int Tryd.underlying3 wn) (shut_int Tryd.underlying3 wg)
      (shut_agg3 (y0 := (.lit (.int .i64 x), [])) (y1 := (.lit (.int .u8 y), [])) (y2 := (.lit (.int .u32 z), [])) Tryd.underlying26 (by kernel_rfl) Tryd.cellsDraft ⟨1, by simp [DataW.trod, Tryd.underlying3, wx]⟩ ⟨1, by simp [DataW.trod, Tryd.underlying5, wy]⟩ ⟨1, by simp [DataW.trod, Tryd.underlying24, wz]⟩)
  · rfl

theorem spanMakes_row : Rows.SpanMakesSaid :=
  OpenClaim.holds_of_wide 3 Tryd.f3 rfl rfl rfl rfl rfl rfl rfl ⟨rfl, rfl, rfl, rfl, rfl⟩ rfl rfl rfl rfl rfl (by kernel_rfl) Tryd.func3 (by kernel_rfl)
    (of_decide_eq_true (by kernel_rfl)) (by unfold Func.isWrapper; first | (rw [if_pos (by decide +kernel)]; kernel_rfl) | (rw [if_neg (by decide +kernel)]; exact ⟨rfl, rfl⟩))
    (fun os started H enc _ => spanMakes_lifted os started H enc)

theorem spanMakes_holds : Rows.SpanMakesCardSaid :=
  Claim7.holds_tied_plain_at .later [] [.data] true (true, "1a1933a62f070ac687e898e275650cf4c3a7b74e27a342d56dd662dea445d06a") false
    spanMakes_row (fun _ h => by cases h) (by kernel_rfl) (fun _ h => by cases h) spanMakes_row_tie rfl ⟨rfl, rfl⟩ (by kernel_rfl) rfl
    (fun f fn hf hfn => by
      obtain rfl : f = 3 := Option.some.inj ((show Tryd.prog.funcNamed "monocle/monoclelaw02.SpanMakes" = some 3 by kernel_rfl).symm.trans hf) |>.symm
      obtain rfl : fn = Tryd.f3 := (Option.some.inj (Tryd.func3.symm.trans hfn)).symm
      exact ⟨by kernel_rfl, fun j t ht => by
        rw [Tryd.params3] at ht
        have hm : t ∈ [23, 3, 3, 26] := by simpa using Array.mem_of_getElem? ht
        have hall : ([23, 3, 3, 26].all fun u => !Tryd.prog.wantsStandIn u) = true := by kernel_rfl
        exact (show Tryd.prog.wantsStandIn t = false by simpa using List.all_eq_true.1 hall t hm)⟩)
    (by kernel_rfl)
#print axioms spanMakes_holds
end Go.Proofs.YtpfmhpmpjejdcaaDoor
