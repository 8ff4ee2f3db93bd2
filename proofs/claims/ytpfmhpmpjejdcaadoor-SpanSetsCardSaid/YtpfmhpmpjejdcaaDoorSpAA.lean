/-
  The walk of SpanSets.
-/
import Derived.Test.YtpfmhpmpjejdcaaDoorSpX
namespace Go.Proofs.YtpfmhpmpjejdcaaDoor
open Go.RowKit

set_option maxRecDepth 100000 in
set_option maxHeartbeats 4000000 in
theorem spanSets_true (a b c d x y z x' y' z' : Int) (w : World) (hT0 : Tens w) (y0 : 0 ≤ y) (y1 : y ≤ 255) (z0 : 0 ≤ z) (z1 : z ≤ 4294967295) (y0' : 0 ≤ y') (y1' : y' ≤ 255) (z0' : 0 ≤ z') (z1' : z' ≤ 4294967295) :
    Calls Tryd.prog 5 #[.agg #[.int .i64 a, .int .i64 b, .int .i64 c, .int .i64 d, .int .i64 x, .int .u8 y, .int .u32 z, .int .i64 x', .int .u8 y', .int .u32 z']] w fun e w' => e = .returned (.bool true) ∧ Below w.heap.size w w' := by
  have hpr := fun w => pairs_any a b c d x y z x' y' z' w y0 y1 z0 z1 y0' y1' z0' z1'
  clear y0 y1 z0 z1 y0' y1' z0' z1'
  go_enter Tryd.func5, Tryd.ntmps5
  go_wp2_with fail
  go_at_call 12
  refine (works_true _ (hT0.below (by (repeat (first | with_reducible exact Below.refl _ _ | with_reducible assumption | refine Below.alloc ?_ (by (try simp); try omega) _ | refine Below.setCell ?_ (by (try simp); try omega) _ | refine below_drewN ?_ _ | refine Below.drew ?_ | (with_reducible refine Below.trans ?_ (Below.mono (by assumption) (by (try simp); try omega)))))))).mono ?_
  rintro e w1 ⟨rfl, hb1⟩
  have c0 : w1.cell? ⟨w.heap.size, 0, none⟩ = some (.int .i64 a) := bkeep hb1 (by simp)
  have c1 : w1.cell? ⟨w.heap.size, 1, none⟩ = some (.int .i64 b) := bkeep hb1 (by simp)
  have c2 : w1.cell? ⟨w.heap.size, 2, none⟩ = some (.int .i64 c) := bkeep hb1 (by simp)
  have c3 : w1.cell? ⟨w.heap.size, 3, none⟩ = some (.int .i64 d) := bkeep hb1 (by simp)
  have c4 : w1.cell? ⟨w.heap.size, 4, none⟩ = some (.int .i64 x) := bkeep hb1 (by simp)
  have c5 : w1.cell? ⟨w.heap.size, 5, none⟩ = some (.int .u8 y) := bkeep hb1 (by simp)
  have c6 : w1.cell? ⟨w.heap.size, 6, none⟩ = some (.int .u32 z) := bkeep hb1 (by simp)
  have c7 : w1.cell? ⟨w.heap.size, 7, none⟩ = some (.int .i64 x') := bkeep hb1 (by simp)
  have c8 : w1.cell? ⟨w.heap.size, 8, none⟩ = some (.int .u8 y') := bkeep hb1 (by simp)
  have c9 : w1.cell? ⟨w.heap.size, 9, none⟩ = some (.int .u32 z') := bkeep hb1 (by simp)
  have hB : Since w w1 := sinceA (Since.refl w) hb1
  clear hb1
  go_wp2_with fail
  go_at_call 23
  refine (hpr _).mono ?_
  rintro e w2 ⟨B, f, rfl, hP, hV, hb2⟩
  (with_reducible (first | (replace hb2 := undrew hb2) | skip))
  replace hB := hB.step hb2
  clear hb2 hpr c0 c1 c2 c3 c4 c5 c6 c7 c8 c9
  go_wp2_with fail
  clear hV
  go_loopw [22] (fun vi wr => ∃ k : Int, 0 ≤ k ∧ k ≤ 5 ∧ vi = .int .i64 k ∧ Since w wr ∧ PrsAt wr B f) (fun vi _ => 5 - (intOf vi).toNat)
  case atStart => exact ⟨0, by omega, by omega, rfl, hB, hP⟩
  case round =>
    clear hB hP
    obtain ⟨k, k0, k5, rfl, hB, hP⟩ := hrel
    by_cases hk : k < 5
    · obtain ⟨p0, p1, p2, p3⟩ := hP k.toNat (by omega)
      obtain ⟨q0, hq0⟩ : ∃ q, (f k.toNat).1 = q := ⟨_, rfl⟩
      obtain ⟨q1, hq1⟩ : ∃ q, (f k.toNat).2.1 = q := ⟨_, rfl⟩
      obtain ⟨q2, hq2⟩ : ∃ q, (f k.toNat).2.2.1 = q := ⟨_, rfl⟩
      obtain ⟨q3, hq3⟩ : ∃ q, (f k.toNat).2.2.2 = q := ⟨_, rfl⟩
      rw [hq0] at p0
      rw [hq1] at p1
      rw [hq2] at p2
      rw [hq3] at p3
      clear hq0 hq1 hq2 hq3
      rw [Nat.mul_comm] at p0 p1 p2 p3
      have f1 := fun w => sAbs_any q0 q1 w
      have f2 := fun w => rAbs_any q0 q1 w
      have f3 := fun w => sMin_any q0 q1 q2 q3 w
      have f4 := fun w => rMin_any q0 q1 q2 q3 w
      have f5 := fun w => sMax_any q0 q1 q2 q3 w
      have f6 := fun w => rMax_any q0 q1 q2 q3 w
      have f7 := fun w => sHull_any q0 q1 q2 q3 w
      have f8 := fun w => rHull_any q0 q1 q2 q3 w
      have f9 := fun w => sMeet_any q0 q1 q2 q3 w
      have g1 := fun w => rMeet_any q0 q1 q2 q3 w
      generalize sAbsR q0 q1 = o at *
      obtain ⟨oa, ob, oc⟩ := o
      generalize sMinR q0 q1 q2 q3 = m at *
      obtain ⟨ma, mb, mc⟩ := m
      generalize sMaxR q0 q1 q2 q3 = r at *
      obtain ⟨ra, rb, rc⟩ := r
      generalize sHullR q0 q1 q2 q3 = h at *
      obtain ⟨ha, hb, hc⟩ := h
      generalize sMeetR q0 q1 q2 q3 = n at *
      obtain ⟨na, nb, nc⟩ := n
      simp only [] at f1 f2 f3 f4 f5 f6 f7 f8 f9 g1
      go_wp2_with fail
      clear p0 p1 p2 p3
      go_at_call 30
      refine (f1 _).mono ?_
      rintro e u1 ⟨rfl, hb1⟩
      (with_reducible (first | (replace hb1 := undrew hb1) | skip))
      clear f1
      replace hB := sinceA hB hb1
      replace hP := PrsAt.keep hb1 (PrsAt.alloc hP)
      obtain ⟨P0, P1, P2, P3⟩ := newA4 hb1
      clear hb1
      have N_B_A := Lib.hid (Nat.ne_of_lt (World.block_lt_of_cell? u1 _ (hP 0 (by omega)).1))
      have lP := World.block_lt_of_cell? u1 _ P0
      simp only [] at lP
      have N_P_A := Lib.hid (Nat.ne_of_lt lP)
      have L_A := Lib.hid hB.out.size
      go_wp2_with fail
      go_at_call 31
      refine (f2 _).mono ?_
      rintro e u2 ⟨rfl, hb2⟩
      (with_reducible (first | (replace hb2 := undrew hb2) | skip))
      clear f2
      clear lP
      replace P0 := bkeep hb2 (cellAlloc P0)
      replace P1 := bkeep hb2 (cellAlloc P1)
      replace P2 := bkeep hb2 (cellAlloc P2)
      replace P3 := bkeep hb2 (cellAlloc P3)
      replace hB := sinceA hB hb2
      replace hP := PrsAt.keep hb2 (PrsAt.alloc hP)
      have OA := ownNew hb2
      clear hb2
      have N_B_C := Lib.hid (Nat.ne_of_lt (World.block_lt_of_cell? u2 _ (hP 0 (by omega)).1))
      have lP := World.block_lt_of_cell? u2 _ P0
      simp only [] at lP
      have N_P_C := Lib.hid (Nat.ne_of_lt lP)
      have N_A_C := Lib.hid (Nat.ne_of_lt OA.2.2.2.2)
      have L_C := Lib.hid hB.out.size
      go_wp2_with fail
      go_at_call 32
      refine (f3 _).mono ?_
      rintro e u3 ⟨rfl, hb3⟩
      (with_reducible (first | (replace hb3 := undrew hb3) | skip))
      clear f3
      clear lP
      replace P0 := bkeep hb3 (cellAlloc P0)
      replace P1 := bkeep hb3 (cellAlloc P1)
      replace P2 := bkeep hb3 (cellAlloc P2)
      replace P3 := bkeep hb3 (cellAlloc P3)
      replace OA := ownKeep hb3 (ownAlloc OA)
      replace hB := sinceA hB hb3
      replace hP := PrsAt.keep hb3 (PrsAt.alloc hP)
      have OC := ownNew hb3
      clear hb3
      have N_B_D := Lib.hid (Nat.ne_of_lt (World.block_lt_of_cell? u3 _ (hP 0 (by omega)).1))
      have lP := World.block_lt_of_cell? u3 _ P0
      simp only [] at lP
      have N_P_D := Lib.hid (Nat.ne_of_lt lP)
      have N_A_D := Lib.hid (Nat.ne_of_lt OA.2.2.2.2)
      have N_C_D := Lib.hid (Nat.ne_of_lt OC.2.2.2.2)
      have L_D := Lib.hid hB.out.size
      go_wp2_with fail
      go_at_call 33
      refine (f4 _).mono ?_
      rintro e u4 ⟨rfl, hb4⟩
      (with_reducible (first | (replace hb4 := undrew hb4) | skip))
      clear f4
      clear lP
      replace P0 := bkeep hb4 (cellAlloc P0)
      replace P1 := bkeep hb4 (cellAlloc P1)
      replace P2 := bkeep hb4 (cellAlloc P2)
      replace P3 := bkeep hb4 (cellAlloc P3)
      replace OA := ownKeep hb4 (ownAlloc OA)
      replace OC := ownKeep hb4 (ownAlloc OC)
      replace hB := sinceA hB hb4
      replace hP := PrsAt.keep hb4 (PrsAt.alloc hP)
      have OD := ownNew hb4
      clear hb4
      have N_B_E := Lib.hid (Nat.ne_of_lt (World.block_lt_of_cell? u4 _ (hP 0 (by omega)).1))
      have lP := World.block_lt_of_cell? u4 _ P0
      simp only [] at lP
      have N_P_E := Lib.hid (Nat.ne_of_lt lP)
      have N_A_E := Lib.hid (Nat.ne_of_lt OA.2.2.2.2)
      have N_C_E := Lib.hid (Nat.ne_of_lt OC.2.2.2.2)
      have N_D_E := Lib.hid (Nat.ne_of_lt OD.2.2.2.2)
      have L_E := Lib.hid hB.out.size
      go_wp2_with fail
      go_at_call 34
      refine (f5 _).mono ?_
      rintro e u5 ⟨rfl, hb5⟩
      (with_reducible (first | (replace hb5 := undrew hb5) | skip))
      clear f5
      clear lP
      replace P0 := bkeep hb5 (cellAlloc P0)
      replace P1 := bkeep hb5 (cellAlloc P1)
      replace P2 := bkeep hb5 (cellAlloc P2)
      replace P3 := bkeep hb5 (cellAlloc P3)
      replace OA := ownKeep hb5 (ownAlloc OA)
      replace OC := ownKeep hb5 (ownAlloc OC)
      replace OD := ownKeep hb5 (ownAlloc OD)
      replace hB := sinceA hB hb5
      replace hP := PrsAt.keep hb5 (PrsAt.alloc hP)
      have OE := ownNew hb5
      clear hb5
      have N_B_F := Lib.hid (Nat.ne_of_lt (World.block_lt_of_cell? u5 _ (hP 0 (by omega)).1))
      have lP := World.block_lt_of_cell? u5 _ P0
      simp only [] at lP
      have N_P_F := Lib.hid (Nat.ne_of_lt lP)
      have N_A_F := Lib.hid (Nat.ne_of_lt OA.2.2.2.2)
      have N_C_F := Lib.hid (Nat.ne_of_lt OC.2.2.2.2)
      have N_D_F := Lib.hid (Nat.ne_of_lt OD.2.2.2.2)
      have N_E_F := Lib.hid (Nat.ne_of_lt OE.2.2.2.2)
      have L_F := Lib.hid hB.out.size
      go_wp2_with fail
      go_at_call 35
      refine (f6 _).mono ?_
      rintro e u6 ⟨rfl, hb6⟩
      (with_reducible (first | (replace hb6 := undrew hb6) | skip))
      clear f6
      clear lP
      replace P0 := bkeep hb6 (cellAlloc P0)
      replace P1 := bkeep hb6 (cellAlloc P1)
      replace P2 := bkeep hb6 (cellAlloc P2)
      replace P3 := bkeep hb6 (cellAlloc P3)
      replace OA := ownKeep hb6 (ownAlloc OA)
      replace OC := ownKeep hb6 (ownAlloc OC)
      replace OD := ownKeep hb6 (ownAlloc OD)
      replace OE := ownKeep hb6 (ownAlloc OE)
      replace hB := sinceA hB hb6
      replace hP := PrsAt.keep hb6 (PrsAt.alloc hP)
      have OF := ownNew hb6
      clear hb6
      have N_B_G := Lib.hid (Nat.ne_of_lt (World.block_lt_of_cell? u6 _ (hP 0 (by omega)).1))
      have lP := World.block_lt_of_cell? u6 _ P0
      simp only [] at lP
      have N_P_G := Lib.hid (Nat.ne_of_lt lP)
      have N_A_G := Lib.hid (Nat.ne_of_lt OA.2.2.2.2)
      have N_C_G := Lib.hid (Nat.ne_of_lt OC.2.2.2.2)
      have N_D_G := Lib.hid (Nat.ne_of_lt OD.2.2.2.2)
      have N_E_G := Lib.hid (Nat.ne_of_lt OE.2.2.2.2)
      have N_F_G := Lib.hid (Nat.ne_of_lt OF.2.2.2.2)
      have L_G := Lib.hid hB.out.size
      replace P0 : (u6.alloc (.cells #[.int .i64 ra, .int .i64 rb] 23)).cell? _ = _ := cellAlloc P0
      replace P1 : (u6.alloc (.cells #[.int .i64 ra, .int .i64 rb] 23)).cell? _ = _ := cellAlloc P1
      replace P2 : (u6.alloc (.cells #[.int .i64 ra, .int .i64 rb] 23)).cell? _ = _ := cellAlloc P2
      replace P3 : (u6.alloc (.cells #[.int .i64 ra, .int .i64 rb] 23)).cell? _ = _ := cellAlloc P3
      replace OA : Own (u6.alloc (.cells #[.int .i64 ra, .int .i64 rb] 23)) _ _ _ := ownAlloc OA
      replace OC : Own (u6.alloc (.cells #[.int .i64 ra, .int .i64 rb] 23)) _ _ _ := ownAlloc OC
      replace OD : Own (u6.alloc (.cells #[.int .i64 ra, .int .i64 rb] 23)) _ _ _ := ownAlloc OD
      replace OE : Own (u6.alloc (.cells #[.int .i64 ra, .int .i64 rb] 23)) _ _ _ := ownAlloc OE
      replace OF : Own (u6.alloc (.cells #[.int .i64 ra, .int .i64 rb] 23)) _ _ _ := ownAlloc OF
      have OG := ownHere u6 (.int .i64 ra) (.int .i64 rb) 23
      replace hB : Since w (u6.alloc (.cells #[.int .i64 ra, .int .i64 rb] 23)) := hB.alloc
      replace hP : PrsAt (u6.alloc (.cells #[.int .i64 ra, .int .i64 rb] 23)) _ _ := hP.alloc
      have A0 := OA.1
      have A1 := OA.2.1
      have C0 := OC.1
      have C1 := OC.2.1
      have D0 := OD.1
      have D1 := OD.2.1
      have E0 := OE.1
      have E1 := OE.2.1
      have F0 := OF.1
      have F1 := OF.2.1
      have G0 := OG.1
      have G1 := OG.2.1
      go_wp2_with fail
      go_at_call 20
      (with_reducible refine (alike_true _ _ _ _).mono ?_)
      rintro e u7 ⟨rfl, hb7⟩
      (with_reducible (first | (replace hb7 := undrew hb7) | skip))
      clear lP
      replace P0 := bkeep hb7 P0
      replace P1 := bkeep hb7 P1
      replace P2 := bkeep hb7 P2
      replace P3 := bkeep hb7 P3
      replace OA := ownKeep hb7 OA
      replace OC := ownKeep hb7 OC
      replace OD := ownKeep hb7 OD
      replace OE := ownKeep hb7 OE
      replace OF := ownKeep hb7 OF
      replace OG := ownKeep hb7 OG
      replace hB := hB.step hb7
      replace hP := PrsAt.keep hb7 hP
      clear A0 A1 C0 C1 D0 D1 E0 E1 F0 F1 G0 G1
      have A0 := OA.1
      have A1 := OA.2.1
      have C0 := OC.1
      have C1 := OC.2.1
      have D0 := OD.1
      have D1 := OD.2.1
      have E0 := OE.1
      have E1 := OE.2.1
      have F0 := OF.1
      have F1 := OF.2.1
      have G0 := OG.1
      have G1 := OG.2.1
      clear hb7
      go_wp2_with fail
      go_at_call 20
      (with_reducible refine (alike_true _ _ _ _).mono ?_)
      rintro e u8 ⟨rfl, hb8⟩
      (with_reducible (first | (replace hb8 := undrew hb8) | skip))
      replace P0 := bkeep hb8 P0
      replace P1 := bkeep hb8 P1
      replace P2 := bkeep hb8 P2
      replace P3 := bkeep hb8 P3
      replace OA := ownKeep hb8 OA
      replace OC := ownKeep hb8 OC
      replace OD := ownKeep hb8 OD
      replace OE := ownKeep hb8 OE
      replace OF := ownKeep hb8 OF
      replace OG := ownKeep hb8 OG
      replace hB := hB.step hb8
      replace hP := PrsAt.keep hb8 hP
      clear A0 A1 C0 C1 D0 D1 E0 E1 F0 F1 G0 G1
      have A0 := OA.1
      have A1 := OA.2.1
      have C0 := OC.1
      have C1 := OC.2.1
      have D0 := OD.1
      have D1 := OD.2.1
      have E0 := OE.1
      have E1 := OE.2.1
      have F0 := OF.1
      have F1 := OF.2.1
      have G0 := OG.1
      have G1 := OG.2.1
      clear hb8
      go_wp2_with fail
      go_at_call 20
      (with_reducible refine (alike_true _ _ _ _).mono ?_)
      rintro e u9 ⟨rfl, hb9⟩
      (with_reducible (first | (replace hb9 := undrew hb9) | skip))
      replace P0 := bkeep hb9 P0
      replace P1 := bkeep hb9 P1
      replace P2 := bkeep hb9 P2
      replace P3 := bkeep hb9 P3
      replace OA := ownKeep hb9 OA
      replace OC := ownKeep hb9 OC
      replace OD := ownKeep hb9 OD
      replace OE := ownKeep hb9 OE
      replace OF := ownKeep hb9 OF
      replace OG := ownKeep hb9 OG
      replace hB := hB.step hb9
      replace hP := PrsAt.keep hb9 hP
      clear A0 A1 C0 C1 D0 D1 E0 E1 F0 F1 G0 G1
      have A0 := OA.1
      have A1 := OA.2.1
      have C0 := OC.1
      have C1 := OC.2.1
      have D0 := OD.1
      have D1 := OD.2.1
      have E0 := OE.1
      have E1 := OE.2.1
      have F0 := OF.1
      have F1 := OF.2.1
      have G0 := OG.1
      have G1 := OG.2.1
      clear hb9
      clear A0 A1 C0 C1 D0 D1 E0 E1 F0 F1 G0 G1
      go_wp2_with fail
      go_at_call 36
      refine (f7 _).mono ?_
      rintro e u10 ⟨rfl, hb10⟩
      (with_reducible (first | (replace hb10 := undrew hb10) | skip))
      clear f7
      replace P0 := bkeep hb10 P0
      replace P1 := bkeep hb10 P1
      replace P2 := bkeep hb10 P2
      replace P3 := bkeep hb10 P3
      replace OA := ownKeep hb10 OA
      replace OC := ownKeep hb10 OC
      replace OD := ownKeep hb10 OD
      replace OE := ownKeep hb10 OE
      replace OF := ownKeep hb10 OF
      replace OG := ownKeep hb10 OG
      replace hB := hB.step hb10
      replace hP := PrsAt.keep hb10 hP
      clear hb10
      have A0 := OA.1
      have A1 := OA.2.1
      have Af0 := OA.2.2.1
      have Af1 := OA.2.2.2.1
      have nP := N_P_A.out
      go_wp2_with fail
      clear A0 A1 Af0 Af1
      clear nP
      go_at_call 37
      refine (f8 _).mono ?_
      rintro e u11 ⟨rfl, hb11⟩
      (with_reducible (first | (replace hb11 := undrew hb11) | skip))
      clear f8
      replace P0 := bkeep hb11 (cellSet2 P0 N_P_A.out)
      replace P1 := bkeep hb11 (cellSet2 P1 N_P_A.out)
      replace P2 := bkeep hb11 (cellSet2 P2 N_P_A.out)
      replace P3 := bkeep hb11 (cellSet2 P3 N_P_A.out)
      replace OA := ownKeep hb11 (Own.of_set2 OA)
      replace OC := ownKeep hb11 (Own.far_set2 OC N_A_C.out.symm)
      replace OD := ownKeep hb11 (Own.far_set2 OD N_A_D.out.symm)
      replace OE := ownKeep hb11 (Own.far_set2 OE N_A_E.out.symm)
      replace OF := ownKeep hb11 (Own.far_set2 OF N_A_F.out.symm)
      replace OG := ownKeep hb11 (Own.far_set2 OG N_A_G.out.symm)
      replace hB := (Since.set2 hB L_A.out).step hb11
      replace hP := PrsAt.keep hb11 (PrsAt.set2 hP N_B_A.out)
      clear hb11
      have C0 := OC.1
      have C1 := OC.2.1
      have Cf0 := OC.2.2.1
      have Cf1 := OC.2.2.2.1
      have nP := N_P_C.out
      go_wp2_with fail
      clear C0 C1 Cf0 Cf1
      clear nP
      go_at_call 38
      refine (f9 _).mono ?_
      rintro e u12 ⟨rfl, hb12⟩
      (with_reducible (first | (replace hb12 := undrew hb12) | skip))
      clear f9
      replace P0 := bkeep hb12 (cellSet2 P0 N_P_C.out)
      replace P1 := bkeep hb12 (cellSet2 P1 N_P_C.out)
      replace P2 := bkeep hb12 (cellSet2 P2 N_P_C.out)
      replace P3 := bkeep hb12 (cellSet2 P3 N_P_C.out)
      replace OA := ownKeep hb12 (Own.far_set2 OA N_A_C.out)
      replace OC := ownKeep hb12 (Own.of_set2 OC)
      replace OD := ownKeep hb12 (Own.far_set2 OD N_C_D.out.symm)
      replace OE := ownKeep hb12 (Own.far_set2 OE N_C_E.out.symm)
      replace OF := ownKeep hb12 (Own.far_set2 OF N_C_F.out.symm)
      replace OG := ownKeep hb12 (Own.far_set2 OG N_C_G.out.symm)
      replace hB := (Since.set2 hB L_C.out).step hb12
      replace hP := PrsAt.keep hb12 (PrsAt.set2 hP N_B_C.out)
      clear hb12
      have D0 := OD.1
      have D1 := OD.2.1
      have Df0 := OD.2.2.1
      have Df1 := OD.2.2.2.1
      have nP := N_P_D.out
      go_wp2_with fail
      clear D0 D1 Df0 Df1
      clear nP
      go_at_call 39
      refine (g1 _).mono ?_
      rintro e u13 ⟨rfl, hb13⟩
      (with_reducible (first | (replace hb13 := undrew hb13) | skip))
      clear g1
      replace P0 := bkeep hb13 (cellSet2 P0 N_P_D.out)
      replace P1 := bkeep hb13 (cellSet2 P1 N_P_D.out)
      replace P2 := bkeep hb13 (cellSet2 P2 N_P_D.out)
      replace P3 := bkeep hb13 (cellSet2 P3 N_P_D.out)
      replace OA := ownKeep hb13 (Own.far_set2 OA N_A_D.out)
      replace OC := ownKeep hb13 (Own.far_set2 OC N_C_D.out)
      replace OD := ownKeep hb13 (Own.of_set2 OD)
      replace OE := ownKeep hb13 (Own.far_set2 OE N_D_E.out.symm)
      replace OF := ownKeep hb13 (Own.far_set2 OF N_D_F.out.symm)
      replace OG := ownKeep hb13 (Own.far_set2 OG N_D_G.out.symm)
      replace hB := (Since.set2 hB L_D.out).step hb13
      replace hP := PrsAt.keep hb13 (PrsAt.set2 hP N_B_D.out)
      clear hb13
      have A0 := OA.1
      have A1 := OA.2.1
      have C0 := OC.1
      have C1 := OC.2.1
      have D0 := OD.1
      have D1 := OD.2.1
      have E0 := OE.1
      have E1 := OE.2.1
      have Ef0 := OE.2.2.1
      have Ef1 := OE.2.2.2.1
      have nA := N_A_E.out
      have nC := N_C_E.out
      have nD := N_D_E.out
      have nP := N_P_E.out
      go_wp2_with fail
      clear nA nC nD nP Ef0 Ef1
      go_at_call 20
      (with_reducible refine (alike_true _ _ _ _).mono ?_)
      rintro e u14 ⟨rfl, hb14⟩
      (with_reducible (first | (replace hb14 := undrew hb14) | skip))
      replace P0 := bkeep hb14 (cellSet2 P0 N_P_E.out)
      replace P1 := bkeep hb14 (cellSet2 P1 N_P_E.out)
      replace P2 := bkeep hb14 (cellSet2 P2 N_P_E.out)
      replace P3 := bkeep hb14 (cellSet2 P3 N_P_E.out)
      replace OA := ownKeep hb14 (Own.far_set2 OA N_A_E.out)
      replace OC := ownKeep hb14 (Own.far_set2 OC N_C_E.out)
      replace OD := ownKeep hb14 (Own.far_set2 OD N_D_E.out)
      replace OE := ownKeep hb14 (Own.of_set2 OE)
      replace OF := ownKeep hb14 (Own.far_set2 OF N_E_F.out.symm)
      replace OG := ownKeep hb14 (Own.far_set2 OG N_E_G.out.symm)
      replace hB := (Since.set2 hB L_E.out).step hb14
      replace hP := PrsAt.keep hb14 (PrsAt.set2 hP N_B_E.out)
      clear A0 A1 C0 C1 D0 D1 E0 E1
      have A0 := OA.1
      have A1 := OA.2.1
      have C0 := OC.1
      have C1 := OC.2.1
      have D0 := OD.1
      have D1 := OD.2.1
      have E0 := OE.1
      have E1 := OE.2.1
      clear hb14
      go_wp2_with fail
      go_at_call 20
      (with_reducible refine (alike_true _ _ _ _).mono ?_)
      rintro e u15 ⟨rfl, hb15⟩
      (with_reducible (first | (replace hb15 := undrew hb15) | skip))
      replace P0 := bkeep hb15 P0
      replace P1 := bkeep hb15 P1
      replace P2 := bkeep hb15 P2
      replace P3 := bkeep hb15 P3
      replace OA := ownKeep hb15 OA
      replace OC := ownKeep hb15 OC
      replace OD := ownKeep hb15 OD
      replace OE := ownKeep hb15 OE
      replace OF := ownKeep hb15 OF
      replace OG := ownKeep hb15 OG
      replace hB := hB.step hb15
      replace hP := PrsAt.keep hb15 hP
      clear A0 A1 C0 C1 D0 D1 E0 E1
      have A0 := OA.1
      have A1 := OA.2.1
      have C0 := OC.1
      have C1 := OC.2.1
      have D0 := OD.1
      have D1 := OD.2.1
      have E0 := OE.1
      have E1 := OE.2.1
      clear hb15
      go_wp2_with fail
      go_roundw
      case rel => exact ⟨k + 1, by omega, by omega, by go_num, hB, hP⟩
      case measure => simp [intOf]; omega
    · go_wp2
      go_wp2
      go_ret
      exact ⟨rfl, hB.out⟩

end Go.Proofs.YtpfmhpmpjejdcaaDoor
