/-
  The walk of FixMirrors.
-/
import Derived.Test.YtkapjdehcanppaaDoorFixV
namespace Go.Proofs.YtkapjdehcanppaaDoor
open Go.RowKit

theorem fkeep {w w' : World} {p : Addr} {v : Value} {b : Bool} (hb : Below w.heap.size w w') (h : w.cell? p = some v) (hf : w.frozen? p = b) : w'.frozen? p = b :=
  (hb.frozen (World.block_lt_of_cell? w _ h)).trans hf
theorem Since.set {w a : World} {p : Addr} (h : Since w a) (hp : w.heap.size ≤ p.block) (v : Value) : Since w (a.setCell p v) := Below.setCell h hp v
theorem frozen_set {w : World} {p q : Addr} {v : Value} {b : Bool} (h : w.frozen? q = b) : (w.setCell p v).frozen? q = b := by
  rw [← h]; simp [go_sem]

theorem cset_other {w : World} {p q : Addr} {v u : Value} (h : p ≠ q) (hq : w.cell? q = some u) : (w.setCell p v).cell? q = some u := (World.cell?_setCell_other w p q v h).trans hq
theorem cset_same {w : World} {p : Addr} {v u : Value} (hq : w.cell? p = some u) : (w.setCell p v).cell? p = some v := World.cell?_setCell_same' w p v (by rw [hq]; rfl)

theorem opp_true (x y : Int × Int) (w : World) (h : x = negP y) (hy : -4503599627370496 ≤ y.1 ∧ y.1 ≤ 4503599627370496) :
    Calls Tryd.prog 35 #[.int .i64 x.1, .int .i64 x.2, .int .i64 y.1, .int .i64 y.2] w fun e w' => e = .returned (.bool true) ∧ w = w' := by
  subst h
  obtain ⟨q, f⟩ := y
  unfold negP
  simp only at hy ⊢
  obtain ⟨hy0, hy1⟩ := hy
  go_enter Tryd.func35, Tryd.ntmps35
  go_wp2
  go_ret
  exact ⟨rfl, rfl⟩

set_option maxRecDepth 100000 in
set_option maxHeartbeats 4000000 in
theorem fixMirrors_true (a b N D : Int) (w : World) (hT0 : Tens w) (N0 : -9223372036854775808 ≤ N) (N1 : N ≤ 9223372036854775807) (D0 : -9223372036854775808 ≤ D) (D1 : D ≤ 9223372036854775807) :
    Calls Tryd.prog 7 #[.int .i64 a, .int .i64 b, .agg #[.int .i64 N, .int .i64 D]] w fun e w' => e = .returned (.bool true) ∧ Below w.heap.size w w' := by
  have hB : Since w (w.alloc (.cells #[.int .i64 N, .int .i64 D] 37)) := (Below.refl _ _).alloc (Nat.le_refl _) _
  have hN : (w.alloc (.cells #[.int .i64 N, .int .i64 D] 37)).cell? ⟨w.heap.size, 0, none⟩ = some (.int .i64 N) := by simp
  have hD : (w.alloc (.cells #[.int .i64 N, .int .i64 D] 37)).cell? ⟨w.heap.size, 1, none⟩ = some (.int .i64 D) := by simp
  have hF : (w.alloc (.cells #[.int .i64 N, .int .i64 D] 37)).frozen? ⟨w.heap.size, 0, none⟩ = false := by simp
  have hG : (w.alloc (.cells #[.int .i64 N, .int .i64 D] 37)).frozen? ⟨w.heap.size, 1, none⟩ = false := by simp
  obtain ⟨a', l0, l1, ha⟩ := near_bd a
  obtain ⟨b', k0, k1, hb'⟩ := near_bd b
  obtain ⟨kk, hkk⟩ : ∃ kk, wrap64 ((IntKind.u64.wrap D).tmod 13) = kk := ⟨_, rfl⟩
  have p1 := fun w => opp_true _ _ w (mulR_neg a' b') (mulR_bd _ _ _)
  have p2 := fun w => opp_true _ _ w (divR_neg a' b') (divR_bd _ _ _)
  have p3 := fun w => opp_true _ _ w (scaleR_neg a' (N / 2) D) (scaleR_bd _ _ _ _)
  have f1 := fun w hT => fromDec_any (N / 2) kk w hT (by omega) (by omega)
  have f2 := fun w hT => fromDec_any (-(N / 2)) kk w hT (by omega) (by omega)
  obtain ⟨e1, e2, e3⟩ := decR_neg (N / 2) kk
  obtain ⟨d0, d1, d2, d3⟩ := decR_bd (N / 2) kk
  have d4 := decR_le (N / 2) kk
  rw [e1, show (decR (-(N / 2)) kk).1 = -(decR (N / 2) kk).2.1 by omega, show (decR (-(N / 2)) kk).2.1 = -(decR (N / 2) kk).1 by omega] at f2
  clear e1 e2 e3
  generalize (decR (N / 2) kk).1 = x1 at *
  generalize (decR (N / 2) kk).2.1 = x2 at *
  generalize (decR (N / 2) kk).2.2 = x3 at *
  go_enter Tryd.func7, Tryd.ntmps7
  go_wp2_with (first | (go_at_call 11; refine (works_true _ (hT0.below hB.out)).mono ?_; rintro e w1 ⟨rfl, hb⟩; replace hF := fkeep hb hN hF; replace hG := fkeep hb hD hG; replace hN := bkeep hb hN; replace hD := bkeep hb hD; replace hB := hB.step hb; clear hb) | (go_at_call 12; (first | (with_reducible refine (ha _).mono ?_) | (with_reducible refine (hb' _).mono ?_)); rintro e w' ⟨rfl, rfl⟩) | (go_at_call 29; refine (mulDown_any (-a') b' _).mono ?_; rintro e w1 ⟨rfl, hb⟩; replace hF := fkeep hb hN hF; replace hG := fkeep hb hD hG; replace hN := bkeep hb hN; replace hD := bkeep hb hD; replace hB := hB.step hb; clear hb) | (go_at_call 30; refine (mulUp_any a' b' _).mono ?_; rintro e w1 ⟨rfl, hb⟩; replace hF := fkeep hb hN hF; replace hG := fkeep hb hD hG; replace hN := bkeep hb hN; replace hD := bkeep hb hD; replace hB := hB.step hb; clear hb) | (go_at_call 21; refine (divDown_any a' (-b') _).mono ?_; rintro e w1 ⟨rfl, hb⟩; replace hF := fkeep hb hN hF; replace hG := fkeep hb hD hG; replace hN := bkeep hb hN; replace hD := bkeep hb hD; replace hB := hB.step hb; clear hb) | (go_at_call 22; refine (divUp_any a' b' _).mono ?_; rintro e w1 ⟨rfl, hb⟩; replace hF := fkeep hb hN hF; replace hG := fkeep hb hD hG; replace hN := bkeep hb hN; replace hD := bkeep hb hD; replace hB := hB.step hb; clear hb) | (go_at_call 32; refine (scaleDown_any a' (-(N / 2)) D _ D0 D1).mono ?_; rintro e w1 ⟨rfl, hb⟩; replace hB := hB.set (p := ⟨w.heap.size, 0, none⟩) (Nat.le_refl _) (.int .i64 (N / 2)); replace hD := cset_other (p := ⟨w.heap.size, 0, none⟩) (v := .int .i64 (N / 2)) (by simp) hD; replace hN := cset_same (v := .int .i64 (N / 2)) hN; replace hF := frozen_set (p := ⟨w.heap.size, 0, none⟩) (v := .int .i64 (N / 2)) hF; replace hG := frozen_set (p := ⟨w.heap.size, 0, none⟩) (v := .int .i64 (N / 2)) hG; replace hF := fkeep hb hN hF; replace hG := fkeep hb hD hG; replace hN := bkeep hb hN; replace hD := bkeep hb hD; replace hB := hB.step hb; clear hb) | (go_at_call 33; refine (scaleUp_any a' (N / 2) D _ D0 D1).mono ?_; rintro e w1 ⟨rfl, hb⟩; replace hF := fkeep hb hN hF; replace hG := fkeep hb hD hG; replace hN := bkeep hb hN; replace hD := bkeep hb hD; replace hB := hB.step hb; clear hb) | (go_at_call 35; (first | (with_reducible refine (p1 _).mono ?_) | (with_reducible refine (p2 _).mono ?_) | (with_reducible refine (p3 _).mono ?_)); rintro e w' ⟨rfl, rfl⟩) | (go_at_call 36; (first | (with_reducible refine (f1 _ (hT0.below hB.out)).mono ?_) | (with_reducible refine (f2 _ (hT0.below hB.out)).mono ?_)); rintro e w1 ⟨rfl, hb⟩; replace hF := fkeep hb hN hF; replace hG := fkeep hb hD hG; replace hN := bkeep hb hN; replace hD := bkeep hb hD; replace hB := hB.step hb; clear hb))
  go_ret
  exact ⟨rfl, hB.out⟩

end Go.Proofs.YtkapjdehcanppaaDoor
