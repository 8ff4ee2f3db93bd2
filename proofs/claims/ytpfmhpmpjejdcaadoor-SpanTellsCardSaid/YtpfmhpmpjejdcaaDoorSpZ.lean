/-
  The walk of SpanTells.
-/
import Derived.Test.YtpfmhpmpjejdcaaDoorSpX
namespace Go.Proofs.YtpfmhpmpjejdcaaDoor
open Go.RowKit

set_option maxRecDepth 100000 in
set_option maxHeartbeats 4000000 in
theorem spanTells_true (a b c d x y z x' y' z' v : Int) (w : World) (hT0 : Tens w) (y0 : 0 ≤ y) (y1 : y ≤ 255) (z0 : 0 ≤ z) (z1 : z ≤ 4294967295) (y0' : 0 ≤ y') (y1' : y' ≤ 255) (z0' : 0 ≤ z') (z1' : z' ≤ 4294967295) :
    Calls Tryd.prog 6 #[.agg #[.int .i64 a, .int .i64 b, .int .i64 c, .int .i64 d, .int .i64 x, .int .u8 y, .int .u32 z, .int .i64 x', .int .u8 y', .int .u32 z'], .int .i64 v] w fun e w' => e = .returned (.bool true) ∧ Below w.heap.size w w' := by
  have hpr := fun w => pairs_any a b c d x y z x' y' z' w y0 y1 z0 z1 y0' y1' z0' z1'
  clear y0 y1 z0 z1 y0' y1' z0' z1'
  go_enter Tryd.func6, Tryd.ntmps6
  go_wp2_with fail
  go_at_call 12
  refine (works_true _ (hT0.below (by (repeat (first | with_reducible exact Below.refl _ _ | with_reducible assumption | refine Below.alloc ?_ (by (try simp); try omega) _ | refine Below.setCell ?_ (by (try simp); try omega) _ | refine below_drewN ?_ _ | refine Below.drew ?_ | (with_reducible refine Below.trans ?_ (Below.mono (by assumption) (by (try simp); try omega)))))))).mono ?_
  rintro e w1 ⟨rfl, hb1⟩
  have c0 : w1.cell? ⟨w.heap.size, 0, none⟩ = some (.int .i64 a) := bkeep hb1 (by simp)
  have c1 : w1.cell? ⟨w.heap.size, 1, none⟩ = some (.int .i64 b) := bkeep hb1 (by simp)
  have c2 : w1.cell? ⟨w.heap.size, 2, none⟩ = some (.int .i64 c) := bkeep hb1 (by simp)
  have c3 : w1.cell? ⟨w.heap.size, 3, none⟩ = some (.int .i64 d) := bkeep hb1 (by simp)
  have c4 : w1.cell? ⟨w.heap.size, 4, none⟩ = some (.int .i64 x) := bkeep hb1 (by simp)
  have c5 : w1.cell? ⟨w.heap.size, 5, none⟩ = some (.int .u8 y) := bkeep hb1 (by simp)
  have c6 : w1.cell? ⟨w.heap.size, 6, none⟩ = some (.int .u32 z) := bkeep hb1 (by simp)
  have c7 : w1.cell? ⟨w.heap.size, 7, none⟩ = some (.int .i64 x') := bkeep hb1 (by simp)
  have c8 : w1.cell? ⟨w.heap.size, 8, none⟩ = some (.int .u8 y') := bkeep hb1 (by simp)
  have c9 : w1.cell? ⟨w.heap.size, 9, none⟩ = some (.int .u32 z') := bkeep hb1 (by simp)
  have hB : Since w w1 := sinceA (Since.refl w) hb1
  clear hb1
  go_wp2_with fail
  go_at_call 23
  refine (hpr _).mono ?_
  rintro e w2 ⟨B, f, rfl, hP, hV, hb2⟩
  (with_reducible (first | (replace hb2 := undrew hb2) | skip))
  replace hB := hB.step hb2
  clear hb2 hpr c0 c1 c2 c3 c4 c5 c6 c7 c8 c9
  go_wp2_with fail
  clear hV
  go_loopw [31] (fun vi wr => ∃ k : Int, 0 ≤ k ∧ k ≤ 5 ∧ vi = .int .i64 k ∧ Since w wr ∧ PrsAt wr B f) (fun vi _ => 5 - (intOf vi).toNat)
  case atStart => exact ⟨0, by omega, by omega, rfl, hB, hP⟩
  case round =>
    clear hB hP
    obtain ⟨k, k0, k5, rfl, hB, hP⟩ := hrel
    by_cases hk : k < 5
    · obtain ⟨p0, p1, p2, p3⟩ := hP k.toNat (by omega)
      obtain ⟨q0, hq0⟩ : ∃ q, (f k.toNat).1 = q := ⟨_, rfl⟩
      obtain ⟨q1, hq1⟩ : ∃ q, (f k.toNat).2.1 = q := ⟨_, rfl⟩
      obtain ⟨q2, hq2⟩ : ∃ q, (f k.toNat).2.2.1 = q := ⟨_, rfl⟩
      obtain ⟨q3, hq3⟩ : ∃ q, (f k.toNat).2.2.2 = q := ⟨_, rfl⟩
      rw [hq0] at p0
      rw [hq1] at p1
      rw [hq2] at p2
      rw [hq3] at p3
      clear hq0 hq1 hq2 hq3
      rw [Nat.mul_comm] at p0 p1 p2 p3
      go_wp2_with fail
      generalize wrap64 (q1 + 1) = q4
      have hidx : ∀ j : Int, 0 ≤ j → j < 4 → ∃ n : Int, ∀ w, (Instr.index 46 (.agg #[.int .i64 v, .int .i64 q0, .int .i64 q1, .int .i64 q4]) (.int .i64 j)).run Tryd.prog w = .ok (.int .i64 n) w := by
        intro j h0 h1
        obtain rfl | rfl | rfl | rfl : j = 0 ∨ j = 1 ∨ j = 2 ∨ j = 3 := by omega
        · exact ⟨v, fun _ => by kernel_rfl⟩
        · exact ⟨q0, fun _ => by kernel_rfl⟩
        · exact ⟨q1, fun _ => by kernel_rfl⟩
        · exact ⟨q4, fun _ => by kernel_rfl⟩
      clear p0 p1 p2 p3
      replace hB := hB.alloc (o := .cells #[.int .i64 q0, .int .i64 q1, .int .i64 q2, .int .i64 q3] 29) |>.alloc (o := .cells #[.int .i64 q0, .int .i64 q1] 23)
      replace hP := hP.alloc (o := .cells #[.int .i64 q0, .int .i64 q1, .int .i64 q2, .int .i64 q3] 29) |>.alloc (o := .cells #[.int .i64 q0, .int .i64 q1] 23)
      go_loopw [46] (fun vi wx => ∃ j : Int, 0 ≤ j ∧ j ≤ 4 ∧ vi = .int .i64 j ∧ Since w wx ∧ PrsAt wx B f ∧ wx.cell? ⟨wr.heap.size + 1, 0, none⟩ = some (.int .i64 q0) ∧ wx.cell? ⟨wr.heap.size + 1, 1, none⟩ = some (.int .i64 q1)) (fun vi _ => 4 - (intOf vi).toNat)
      case atStart => exact ⟨0, by omega, by omega, rfl, hB, hP, by simp, by simp⟩
      case round =>
        clear hB hP
        obtain ⟨j, j0, j4, rfl, hB, hP, s0, s1⟩ := hrel
        by_cases hj : j < 4
        · obtain ⟨m, hi⟩ := hidx j j0 hj
          clear hidx
          have g1 := fun w => sHas_any q0 q1 m w
          have g2 := fun w => rHas_any q0 q1 m w
          generalize sHasR q0 q1 m = r at *
          obtain ⟨ra, rb⟩ := r
          have na : (ra != ra) = false := by simp
          have nb : (rb != rb) = false := by simp
          simp only [] at g1 g2
          go_wp2_with fail
          go_at_call 40
          refine (g1 _).mono ?_
          rintro e u1 ⟨rfl, hb1⟩
          (with_reducible (first | (replace hb1 := undrew hb1) | skip))
          clear g1
          (with_reducible (first | (replace s0 := bkeep hb1 s0) | (replace s0 := bkeep hb1 (cellAlloc s0))))
          (with_reducible (first | (replace s1 := bkeep hb1 s1) | (replace s1 := bkeep hb1 (cellAlloc s1))))
          (with_reducible (first | (replace hB := hB.step hb1) | (replace hB := sinceA hB hb1)))
          (with_reducible (first | (replace hP := PrsAt.keep hb1 hP) | (replace hP := PrsAt.keep hb1 (PrsAt.alloc hP))))
          clear hb1
          go_wp2_with fail
          go_at_call 41
          refine (g2 _).mono ?_
          rintro e u2 ⟨rfl, hb2⟩
          (with_reducible (first | (replace hb2 := undrew hb2) | skip))
          clear g2
          (with_reducible (first | (replace s0 := bkeep hb2 s0) | (replace s0 := bkeep hb2 (cellAlloc s0))))
          (with_reducible (first | (replace s1 := bkeep hb2 s1) | (replace s1 := bkeep hb2 (cellAlloc s1))))
          (with_reducible (first | (replace hB := hB.step hb2) | (replace hB := sinceA hB hb2)))
          (with_reducible (first | (replace hP := PrsAt.keep hb2 hP) | (replace hP := PrsAt.keep hb2 (PrsAt.alloc hP))))
          clear hb2
          go_wp2_with fail
          go_roundw
          case rel => exact ⟨j + 1, by omega, by omega, by go_num, hB, hP, s0, s1⟩
          case measure => simp [intOf]; omega
        · clear hidx
          have g1 := fun w => sMid_any q0 q1 w
          have g2 := fun w => rMid_any q0 q1 w
          have g3 := fun w => sWidth_any q0 q1 w
          have g4 := fun w => rWidth_any q0 q1 w
          have g5 := fun w => sSign_any q0 q1 w
          have g6 := fun w => rSign_any q0 q1 w
          generalize sMidR q0 q1 = m at *
          obtain ⟨ma, mb⟩ := m
          generalize sWidthR q0 q1 = o at *
          obtain ⟨oa, ob⟩ := o
          generalize sSignR q0 q1 = r at *
          obtain ⟨ra, rb⟩ := r
          have nma : (ma != ma) = false := by simp
          have nmb : (mb != mb) = false := by simp
          have noa : (oa != oa) = false := by simp
          have nob : (ob != ob) = false := by simp
          have nra : (ra != ra) = false := by simp
          have nrb : (rb != rb) = false := by simp
          simp only [] at g1 g2 g3 g4 g5 g6
          go_wp2_with fail
          go_at_call 42
          refine (g1 _).mono ?_
          rintro e u1 ⟨rfl, hb1⟩
          (with_reducible (first | (replace hb1 := undrew hb1) | skip))
          clear g1
          (with_reducible (first | (replace s0 := bkeep hb1 s0) | (replace s0 := bkeep hb1 (cellAlloc s0))))
          (with_reducible (first | (replace s1 := bkeep hb1 s1) | (replace s1 := bkeep hb1 (cellAlloc s1))))
          (with_reducible (first | (replace hB := hB.step hb1) | (replace hB := sinceA hB hb1)))
          (with_reducible (first | (replace hP := PrsAt.keep hb1 hP) | (replace hP := PrsAt.keep hb1 (PrsAt.alloc hP))))
          clear hb1
          go_wp2_with fail
          go_at_call 43
          refine (g2 _).mono ?_
          rintro e u2 ⟨rfl, hb2⟩
          (with_reducible (first | (replace hb2 := undrew hb2) | skip))
          clear g2
          (with_reducible (first | (replace s0 := bkeep hb2 s0) | (replace s0 := bkeep hb2 (cellAlloc s0))))
          (with_reducible (first | (replace s1 := bkeep hb2 s1) | (replace s1 := bkeep hb2 (cellAlloc s1))))
          (with_reducible (first | (replace hB := hB.step hb2) | (replace hB := sinceA hB hb2)))
          (with_reducible (first | (replace hP := PrsAt.keep hb2 hP) | (replace hP := PrsAt.keep hb2 (PrsAt.alloc hP))))
          clear hb2
          go_wp2_with fail
          go_at_call 44
          refine (g3 _).mono ?_
          rintro e u3 ⟨rfl, hb3⟩
          (with_reducible (first | (replace hb3 := undrew hb3) | skip))
          clear g3
          (with_reducible (first | (replace s0 := bkeep hb3 s0) | (replace s0 := bkeep hb3 (cellAlloc s0))))
          (with_reducible (first | (replace s1 := bkeep hb3 s1) | (replace s1 := bkeep hb3 (cellAlloc s1))))
          (with_reducible (first | (replace hB := hB.step hb3) | (replace hB := sinceA hB hb3)))
          (with_reducible (first | (replace hP := PrsAt.keep hb3 hP) | (replace hP := PrsAt.keep hb3 (PrsAt.alloc hP))))
          clear hb3
          go_wp2_with fail
          go_at_call 45
          refine (g4 _).mono ?_
          rintro e u4 ⟨rfl, hb4⟩
          (with_reducible (first | (replace hb4 := undrew hb4) | skip))
          clear g4
          (with_reducible (first | (replace s0 := bkeep hb4 s0) | (replace s0 := bkeep hb4 (cellAlloc s0))))
          (with_reducible (first | (replace s1 := bkeep hb4 s1) | (replace s1 := bkeep hb4 (cellAlloc s1))))
          (with_reducible (first | (replace hB := hB.step hb4) | (replace hB := sinceA hB hb4)))
          (with_reducible (first | (replace hP := PrsAt.keep hb4 hP) | (replace hP := PrsAt.keep hb4 (PrsAt.alloc hP))))
          clear hb4
          go_wp2_with fail
          go_at_call 46
          refine (g5 _).mono ?_
          rintro e u5 ⟨rfl, hb5⟩
          (with_reducible (first | (replace hb5 := undrew hb5) | skip))
          clear g5
          (with_reducible (first | (replace s0 := bkeep hb5 s0) | (replace s0 := bkeep hb5 (cellAlloc s0))))
          (with_reducible (first | (replace s1 := bkeep hb5 s1) | (replace s1 := bkeep hb5 (cellAlloc s1))))
          (with_reducible (first | (replace hB := hB.step hb5) | (replace hB := sinceA hB hb5)))
          (with_reducible (first | (replace hP := PrsAt.keep hb5 hP) | (replace hP := PrsAt.keep hb5 (PrsAt.alloc hP))))
          clear hb5
          go_wp2_with fail
          go_at_call 47
          refine (g6 _).mono ?_
          rintro e u6 ⟨rfl, hb6⟩
          (with_reducible (first | (replace hb6 := undrew hb6) | skip))
          clear g6
          (with_reducible (first | (replace s0 := bkeep hb6 s0) | (replace s0 := bkeep hb6 (cellAlloc s0))))
          (with_reducible (first | (replace s1 := bkeep hb6 s1) | (replace s1 := bkeep hb6 (cellAlloc s1))))
          (with_reducible (first | (replace hB := hB.step hb6) | (replace hB := sinceA hB hb6)))
          (with_reducible (first | (replace hP := PrsAt.keep hb6 hP) | (replace hP := PrsAt.keep hb6 (PrsAt.alloc hP))))
          clear hb6
          go_wp2_with fail
          go_roundw
          case rel => exact ⟨k + 1, by omega, by omega, by go_num, hB, hP⟩
          case measure => simp [intOf]; omega
    · go_wp2
      go_wp2
      go_ret
      exact ⟨rfl, hB.out⟩

end Go.Proofs.YtpfmhpmpjejdcaaDoor
