/-
  The walk of FixQuotients.
-/
import Derived.Test.YtkapjdehcanppaaDoorFixM
import Derived.Test.YtkapjdehcanppaaDoorRefB
namespace Go.Proofs.YtkapjdehcanppaaDoor
open Go.RowKit

set_option maxRecDepth 100000 in
set_option maxHeartbeats 4000000 in
theorem fixQuotients_true (a b : Int) (raw : Bool) (w : World) (hT0 : Tens w) :
    Calls Tryd.prog 4 #[.int .i64 a, .int .i64 b, .bool raw] w fun e w' => e = .returned (.bool true) ∧ Below w.heap.size w w' := by
  have hB : Since w w := Since.refl w
  obtain ⟨a', ha⟩ : ∃ a', ∀ w, Calls Tryd.prog 12 #[.int .i64 a, .bool raw] w fun r w' => r = .returned (.int .i64 a') ∧ w = w' := by
    cases raw
    · exact ⟨_, fun w => near_mod a w⟩
    · exact ⟨_, fun w => near_raw a w⟩
  obtain ⟨b', hb'⟩ : ∃ b', ∀ w, Calls Tryd.prog 12 #[.int .i64 b, .bool raw] w fun r w' => r = .returned (.int .i64 b') ∧ w = w' := by
    cases raw
    · exact ⟨_, fun w => near_mod b w⟩
    · exact ⟨_, fun w => near_raw b w⟩
  have x0 : ∀ w, (Instr.index 32 (.agg #[.int .i64 a', .int .i64 b', .int .i64 (a' / 16777216), .int .i64 b', .int .i64 b', .int .i64 (a' / 1073741824), .int .i64 b', .int .i64 0]) (.int .i64 0)).run Tryd.prog w = .ok (.agg #[.int .i64 a', .int .i64 b']) w := fun _ => by kernel_rfl
  have x1 : ∀ w, (Instr.index 32 (.agg #[.int .i64 a', .int .i64 b', .int .i64 (a' / 16777216), .int .i64 b', .int .i64 b', .int .i64 (a' / 1073741824), .int .i64 b', .int .i64 0]) (.int .i64 1)).run Tryd.prog w = .ok (.agg #[.int .i64 (a' / 16777216), .int .i64 b']) w := fun _ => by kernel_rfl
  have x2 : ∀ w, (Instr.index 32 (.agg #[.int .i64 a', .int .i64 b', .int .i64 (a' / 16777216), .int .i64 b', .int .i64 b', .int .i64 (a' / 1073741824), .int .i64 b', .int .i64 0]) (.int .i64 2)).run Tryd.prog w = .ok (.agg #[.int .i64 b', .int .i64 (a' / 1073741824)]) w := fun _ => by kernel_rfl
  have x3 : ∀ w, (Instr.index 32 (.agg #[.int .i64 a', .int .i64 b', .int .i64 (a' / 16777216), .int .i64 b', .int .i64 b', .int .i64 (a' / 1073741824), .int .i64 b', .int .i64 0]) (.int .i64 3)).run Tryd.prog w = .ok (.agg #[.int .i64 b', .int .i64 0]) w := fun _ => by kernel_rfl
  go_enter Tryd.func4, Tryd.ntmps4
  go_wp2_with (first | (go_at_call 11; refine (works_true _ (hT0.below hB.out)).mono ?_; rintro e w1 ⟨rfl, hb⟩; replace hB := hB.step hb; clear hb) | (go_at_call 12; (first | (with_reducible refine (ha _).mono ?_) | (with_reducible refine (hb' _).mono ?_)); rintro e w' ⟨rfl, rfl⟩))
  go_loopw [39] (fun vi wr => ∃ k : Int, (k = 0 ∨ k = 1 ∨ k = 2 ∨ k = 3 ∨ k = 4) ∧ vi = .int .i64 k ∧ Since w wr) (fun vi _ => 4 - (intOf vi).toNat)
  case atStart => exact ⟨0, by omega, rfl, hB⟩
  case round =>
    clear hB
    obtain ⟨k, hk, rfl, hB⟩ := hrel
    obtain rfl | rfl | rfl | rfl | rfl := hk
    · have hN : (wr.alloc (.cells #[.int .i64 a', .int .i64 b'] 30)).cell? ⟨wr.heap.size, 0, none⟩ = some (.int .i64 a') := by simp
      have hD : (wr.alloc (.cells #[.int .i64 a', .int .i64 b'] 30)).cell? ⟨wr.heap.size, 1, none⟩ = some (.int .i64 b') := by simp
      replace hB : Since w (wr.alloc (.cells #[.int .i64 a', .int .i64 b'] 30)) := hB.out.alloc hB.out.size _
      go_wp2_with (first | (go_at_call 21; refine (divDown_any a' b' _).mono ?_; rintro e w1 ⟨rfl, hb⟩; replace hN := bkeep hb hN; replace hD := bkeep hb hD; replace hB := hB.step hb; clear hb) | (go_at_call 22; refine (divUp_any a' b' _).mono ?_; rintro e w1 ⟨rfl, hb⟩; replace hN := bkeep hb hN; replace hD := bkeep hb hD; replace hB := hB.step hb; clear hb) | (go_at_call 23; refine (refDivDown_any a' b' _).mono ?_; rintro e w1 ⟨rfl, hb⟩; replace hN := bkeep hb hN; replace hD := bkeep hb hD; replace hB := hB.step hb; clear hb) | (go_at_call 24; refine (refDivUp_any a' b' _).mono ?_; rintro e w1 ⟨rfl, hb⟩; replace hN := bkeep hb hN; replace hD := bkeep hb hD; replace hB := hB.step hb; clear hb))
      go_roundw
      case rel => exact ⟨1, by omega, rfl, hB⟩
      case measure => simp [intOf]
    · have hN : (wr.alloc (.cells #[.int .i64 (a' / 16777216), .int .i64 b'] 30)).cell? ⟨wr.heap.size, 0, none⟩ = some (.int .i64 (a' / 16777216)) := by simp
      have hD : (wr.alloc (.cells #[.int .i64 (a' / 16777216), .int .i64 b'] 30)).cell? ⟨wr.heap.size, 1, none⟩ = some (.int .i64 b') := by simp
      replace hB : Since w (wr.alloc (.cells #[.int .i64 (a' / 16777216), .int .i64 b'] 30)) := hB.out.alloc hB.out.size _
      go_wp2_with (first | (go_at_call 21; refine (divDown_any (a' / 16777216) b' _).mono ?_; rintro e w1 ⟨rfl, hb⟩; replace hN := bkeep hb hN; replace hD := bkeep hb hD; replace hB := hB.step hb; clear hb) | (go_at_call 22; refine (divUp_any (a' / 16777216) b' _).mono ?_; rintro e w1 ⟨rfl, hb⟩; replace hN := bkeep hb hN; replace hD := bkeep hb hD; replace hB := hB.step hb; clear hb) | (go_at_call 23; refine (refDivDown_any (a' / 16777216) b' _).mono ?_; rintro e w1 ⟨rfl, hb⟩; replace hN := bkeep hb hN; replace hD := bkeep hb hD; replace hB := hB.step hb; clear hb) | (go_at_call 24; refine (refDivUp_any (a' / 16777216) b' _).mono ?_; rintro e w1 ⟨rfl, hb⟩; replace hN := bkeep hb hN; replace hD := bkeep hb hD; replace hB := hB.step hb; clear hb))
      go_roundw
      case rel => exact ⟨2, by omega, rfl, hB⟩
      case measure => simp [intOf]
    · have hN : (wr.alloc (.cells #[.int .i64 b', .int .i64 (a' / 1073741824)] 30)).cell? ⟨wr.heap.size, 0, none⟩ = some (.int .i64 b') := by simp
      have hD : (wr.alloc (.cells #[.int .i64 b', .int .i64 (a' / 1073741824)] 30)).cell? ⟨wr.heap.size, 1, none⟩ = some (.int .i64 (a' / 1073741824)) := by simp
      replace hB : Since w (wr.alloc (.cells #[.int .i64 b', .int .i64 (a' / 1073741824)] 30)) := hB.out.alloc hB.out.size _
      go_wp2_with (first | (go_at_call 21; refine (divDown_any b' (a' / 1073741824) _).mono ?_; rintro e w1 ⟨rfl, hb⟩; replace hN := bkeep hb hN; replace hD := bkeep hb hD; replace hB := hB.step hb; clear hb) | (go_at_call 22; refine (divUp_any b' (a' / 1073741824) _).mono ?_; rintro e w1 ⟨rfl, hb⟩; replace hN := bkeep hb hN; replace hD := bkeep hb hD; replace hB := hB.step hb; clear hb) | (go_at_call 23; refine (refDivDown_any b' (a' / 1073741824) _).mono ?_; rintro e w1 ⟨rfl, hb⟩; replace hN := bkeep hb hN; replace hD := bkeep hb hD; replace hB := hB.step hb; clear hb) | (go_at_call 24; refine (refDivUp_any b' (a' / 1073741824) _).mono ?_; rintro e w1 ⟨rfl, hb⟩; replace hN := bkeep hb hN; replace hD := bkeep hb hD; replace hB := hB.step hb; clear hb))
      go_roundw
      case rel => exact ⟨3, by omega, rfl, hB⟩
      case measure => simp [intOf]
    · have hN : (wr.alloc (.cells #[.int .i64 b', .int .i64 0] 30)).cell? ⟨wr.heap.size, 0, none⟩ = some (.int .i64 b') := by simp
      have hD : (wr.alloc (.cells #[.int .i64 b', .int .i64 0] 30)).cell? ⟨wr.heap.size, 1, none⟩ = some (.int .i64 0) := by simp
      replace hB : Since w (wr.alloc (.cells #[.int .i64 b', .int .i64 0] 30)) := hB.out.alloc hB.out.size _
      go_wp2_with (first | (go_at_call 21; refine (divDown_any b' 0 _).mono ?_; rintro e w1 ⟨rfl, hb⟩; replace hN := bkeep hb hN; replace hD := bkeep hb hD; replace hB := hB.step hb; clear hb) | (go_at_call 22; refine (divUp_any b' 0 _).mono ?_; rintro e w1 ⟨rfl, hb⟩; replace hN := bkeep hb hN; replace hD := bkeep hb hD; replace hB := hB.step hb; clear hb) | (go_at_call 23; refine (refDivDown_any b' 0 _).mono ?_; rintro e w1 ⟨rfl, hb⟩; replace hN := bkeep hb hN; replace hD := bkeep hb hD; replace hB := hB.step hb; clear hb) | (go_at_call 24; refine (refDivUp_any b' 0 _).mono ?_; rintro e w1 ⟨rfl, hb⟩; replace hN := bkeep hb hN; replace hD := bkeep hb hD; replace hB := hB.step hb; clear hb))
      go_roundw
      case rel => exact ⟨4, by omega, rfl, hB⟩
      case measure => simp [intOf]
    · go_wp2
      go_ret
      exact ⟨rfl, hB.out⟩

end Go.Proofs.YtkapjdehcanppaaDoor
