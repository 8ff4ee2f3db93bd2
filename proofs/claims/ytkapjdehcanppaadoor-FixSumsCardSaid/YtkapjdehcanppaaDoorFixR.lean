/-
  The walk of FixSums.
-/
import Derived.Test.YtkapjdehcanppaaDoorFixM
import Derived.Test.YtkapjdehcanppaaDoorFixQ
namespace Go.Proofs.YtkapjdehcanppaaDoor
open Go.RowKit

set_option maxRecDepth 100000 in
set_option maxHeartbeats 2000000 in
theorem fixSums_true (a b : Int) (raw : Bool) (w : World) (hT0 : Tens w) :
    Calls Tryd.prog 3 #[.int .i64 a, .int .i64 b, .bool raw] w fun e w' => e = .returned (.bool true) ∧ Below w.heap.size w w' := by
  have hT := hT0
  have hB : Since w w := Since.refl w
  obtain ⟨a', ha⟩ : ∃ a', ∀ w, Calls Tryd.prog 12 #[.int .i64 a, .bool raw] w fun r w' => r = .returned (.int .i64 a') ∧ w = w' := by
    cases raw
    · exact ⟨_, fun w => near_mod a w⟩
    · exact ⟨_, fun w => near_raw a w⟩
  obtain ⟨b', hb'⟩ : ∃ b', ∀ w, Calls Tryd.prog 12 #[.int .i64 b, .bool raw] w fun r w' => r = .returned (.int .i64 b') ∧ w = w' := by
    cases raw
    · exact ⟨_, fun w => near_mod b w⟩
    · exact ⟨_, fun w => near_raw b w⟩
  go_enter Tryd.func3, Tryd.ntmps3
  go_wp2_with (first | (go_at_call 11; refine (works_true _ hT).mono ?_; rintro e w1 ⟨rfl, hb⟩; replace hT := hT.below hb; replace hB := hB.step hb; clear hb) | (go_at_call 12; (first | (with_reducible refine (ha _).mono ?_) | (with_reducible refine (hb' _).mono ?_)); rintro e w' ⟨rfl, rfl⟩) | (go_at_call 13; refine (add_any a' b' _).mono ?_; rintro e w' ⟨rfl, rfl⟩) | (go_at_call 14; refine (sub_any a' b' _).mono ?_; rintro e w' ⟨rfl, rfl⟩) | (go_at_call 15; refine (neg_any a' _).mono ?_; rintro e w' ⟨rfl, rfl⟩) | (go_at_call 16; refine (refAdd_any a' b' _).mono ?_; rintro e w' ⟨rfl, rfl⟩) | (go_at_call 17; refine (refSub_any a' b' _).mono ?_; rintro e w' ⟨rfl, rfl⟩) | (go_at_call 18; refine (refNeg_any a' _).mono ?_; rintro e w' ⟨rfl, rfl⟩) | (go_at_call 19; refine (check_any a' _).mono ?_; rintro e w' ⟨rfl, rfl⟩) | (go_at_call 20; refine (refCheck_any a' _).mono ?_; rintro e w' ⟨rfl, rfl⟩))
  go_ret
  exact ⟨rfl, hB.out⟩

end Go.Proofs.YtkapjdehcanppaaDoor
