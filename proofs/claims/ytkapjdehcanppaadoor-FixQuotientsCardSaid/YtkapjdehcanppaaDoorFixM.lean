/-
  The function works of the statements' package answers true.
-/
import Derived.Test.YtkapjdehcanppaaDoorFixL
namespace Go.Proofs.YtkapjdehcanppaaDoor
open Go.RowKit

set_option maxRecDepth 100000 in
set_option maxHeartbeats 4000000 in
theorem works_true (w : World) (hT0 : Tens w) :
    Calls Tryd.prog 11 #[] w fun e w' => e = .returned (.bool true) ∧ Below w.heap.size w w' := by
  have hT := hT0
  have hcell : True := trivial
  have hB : Since w w := Since.refl w
  go_enter Tryd.func11, Tryd.ntmps11
  go_wp2_with (first | (go_at_call 34; refine (is_any _ _).mono ?_; rintro e w1 ⟨bx, rfl, hcell, hb⟩; replace hT := hT.below hb; replace hB := hB.step hb; clear hb) | (go_at_call 38; refine (fails_any _ _).mono ?_; rintro e w1 ⟨bx, rfl, hcell, hb⟩; replace hT := hT.below hb; replace hB := hB.step hb; clear hb) | (go_at_call 49; refine (is1_true _ _ _ hcell).mono ?_; rintro e w' ⟨rfl, rfl⟩) | (go_at_call 51; refine (fails1_true _ _ _ hcell).mono ?_; rintro e w' ⟨rfl, rfl⟩) | (go_at_call 13; (first | (with_reducible refine (exAdd_1_2 _).mono ?_)); rintro e w' ⟨rfl, rfl⟩) | (go_at_call 14; (first | (with_reducible refine (exSub_m4503599627370496_1 _).mono ?_)); rintro e w' ⟨rfl, rfl⟩) | (go_at_call 15; (first | (with_reducible refine (exNeg_4503599627370497 _).mono ?_)); rintro e w' ⟨rfl, rfl⟩) | (go_at_call 29; (first | (with_reducible refine (exMulDown_3_2147483648 _).mono ?_) | (with_reducible refine (exMulDown_m3_2147483648 _).mono ?_) | (with_reducible refine (exMulDown_4503599627370496_4503599627370496 _).mono ?_)); rintro e w2 ⟨rfl, hb⟩; (try replace hcell := bkeep hb hcell); replace hT := hT.below hb; replace hB := hB.step hb; clear hb) | (go_at_call 30; (first | (with_reducible refine (exMulUp_3_2147483648 _).mono ?_)); rintro e w2 ⟨rfl, hb⟩; (try replace hcell := bkeep hb hcell); replace hT := hT.below hb; replace hB := hB.step hb; clear hb) | (go_at_call 21; (first | (with_reducible refine (exDivDown_4294967296_12884901888 _).mono ?_)); rintro e w2 ⟨rfl, hb⟩; (try replace hcell := bkeep hb hcell); replace hT := hT.below hb; replace hB := hB.step hb; clear hb) | (go_at_call 22; (first | (with_reducible refine (exDivUp_4294967296_12884901888 _).mono ?_) | (with_reducible refine (exDivUp_1_0 _).mono ?_)); rintro e w2 ⟨rfl, hb⟩; (try replace hcell := bkeep hb hcell); replace hT := hT.below hb; replace hB := hB.step hb; clear hb) | (go_at_call 25; (first | (with_reducible refine (exSqrtDown_8589934592 _).mono ?_) | (with_reducible refine (exSqrtDown_17179869184 _).mono ?_) | (with_reducible refine (exSqrtDown_m1 _).mono ?_)); rintro e w2 ⟨rfl, hb⟩; (try replace hcell := bkeep hb hcell); replace hT := hT.below hb; replace hB := hB.step hb; clear hb) | (go_at_call 26; (first | (with_reducible refine (exSqrtUp_8589934592 _).mono ?_)); rintro e w2 ⟨rfl, hb⟩; (try replace hcell := bkeep hb hcell); replace hT := hT.below hb; replace hB := hB.step hb; clear hb) | (go_at_call 32; (first | (with_reducible refine (exScaleDown_4294967296_m1_3 _).mono ?_)); rintro e w2 ⟨rfl, hb⟩; (try replace hcell := bkeep hb hcell); replace hT := hT.below hb; replace hB := hB.step hb; clear hb) | (go_at_call 33; (first | (with_reducible refine (exScaleUp_4294967296_m1_3 _).mono ?_) | (with_reducible refine (exScaleUp_1_1_0 _).mono ?_)); rintro e w2 ⟨rfl, hb⟩; (try replace hcell := bkeep hb hcell); replace hT := hT.below hb; replace hB := hB.step hb; clear hb) | (go_at_call 36; (first | (with_reducible refine (exFromDec_125_1 _ hT).mono ?_) | (with_reducible refine (exFromDec_m1_12 _ hT).mono ?_) | (with_reducible refine (exFromDec_1048576_0 _ hT).mono ?_) | (with_reducible refine (exFromDec_1_13 _ hT).mono ?_)); rintro e w2 ⟨rfl, hb⟩; (try replace hcell := bkeep hb hcell); replace hT := hT.below hb; replace hB := hB.step hb; clear hb))
  go_ret
  exact ⟨rfl, hB.out⟩

end Go.Proofs.YtkapjdehcanppaaDoor
