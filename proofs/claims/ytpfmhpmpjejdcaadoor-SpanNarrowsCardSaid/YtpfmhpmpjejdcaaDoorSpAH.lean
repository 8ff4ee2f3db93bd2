/-
  The walk of SpanNarrows.
-/
import Derived.Test.YtpfmhpmpjejdcaaDoorSpAG
import Derived.Test.YtpfmhpmpjejdcaaDoorSpAB
import Derived.Deep.RegionHeld3
namespace Go.Proofs.YtpfmhpmpjejdcaaDoor
open Go.RowKit

set_option maxRecDepth 100000 in
set_option maxHeartbeats 4000000 in
theorem spanNarrows_true (a b c d x y z x' y' z' V W V' W' n : Int) (w : World) (hT0 : Tens w) (y0 : 0 ≤ y) (y1 : y ≤ 255) (z0 : 0 ≤ z) (z1 : z ≤ 4294967295) (y0' : 0 ≤ y') (y1' : y' ≤ 255) (z0' : 0 ≤ z') (z1' : z' ≤ 4294967295) (V0 : 0 ≤ V) (V1 : V ≤ 18446744073709551615) (W0 : 0 ≤ W) (W1 : W ≤ 18446744073709551615) (V'0 : 0 ≤ V') (V'1 : V' ≤ 18446744073709551615) (W'0 : 0 ≤ W') (W'1 : W' ≤ 18446744073709551615) :
    Calls Tryd.prog 8 #[.agg #[.int .i64 a, .int .i64 b, .int .i64 c, .int .i64 d, .int .i64 x, .int .u8 y, .int .u32 z, .int .i64 x', .int .u8 y', .int .u32 z'], .agg #[.int .u64 V, .int .u64 W], .agg #[.int .u64 V', .int .u64 W'], .int .i64 n] w fun e w' => e = .returned (.bool true) ∧ Below w.heap.size w w' := by
  have hpr := fun w => pairs_any a b c d x y z x' y' z' w y0 y1 z0 z1 y0' y1' z0' z1'
  clear y0 y1 z0 z1 y0' y1' z0' z1'
  go_enter Tryd.func8, Tryd.ntmps8
  go_wp2_with fail
  go_at_call 12
  refine (works_true _ (hT0.below (by (repeat (first | with_reducible exact Below.refl _ _ | with_reducible assumption | refine Below.alloc ?_ (by (try simp); try omega) _ | refine Below.setCell ?_ (by (try simp); try omega) _ | refine below_drewN ?_ _ | refine Below.drew ?_ | (with_reducible refine Below.trans ?_ (Below.mono (by assumption) (by (try simp); try omega)))))))).mono ?_
  rintro e w1 ⟨rfl, hb1⟩
  have c0 : w1.cell? ⟨w.heap.size, 0, none⟩ = some (.int .i64 a) := bkeep hb1 (cellAlloc (cellAlloc (by simp)))
  have c1 : w1.cell? ⟨w.heap.size, 1, none⟩ = some (.int .i64 b) := bkeep hb1 (cellAlloc (cellAlloc (by simp)))
  have c2 : w1.cell? ⟨w.heap.size, 2, none⟩ = some (.int .i64 c) := bkeep hb1 (cellAlloc (cellAlloc (by simp)))
  have c3 : w1.cell? ⟨w.heap.size, 3, none⟩ = some (.int .i64 d) := bkeep hb1 (cellAlloc (cellAlloc (by simp)))
  have c4 : w1.cell? ⟨w.heap.size, 4, none⟩ = some (.int .i64 x) := bkeep hb1 (cellAlloc (cellAlloc (by simp)))
  have c5 : w1.cell? ⟨w.heap.size, 5, none⟩ = some (.int .u8 y) := bkeep hb1 (cellAlloc (cellAlloc (by simp)))
  have c6 : w1.cell? ⟨w.heap.size, 6, none⟩ = some (.int .u32 z) := bkeep hb1 (cellAlloc (cellAlloc (by simp)))
  have c7 : w1.cell? ⟨w.heap.size, 7, none⟩ = some (.int .i64 x') := bkeep hb1 (cellAlloc (cellAlloc (by simp)))
  have c8 : w1.cell? ⟨w.heap.size, 8, none⟩ = some (.int .u8 y') := bkeep hb1 (cellAlloc (cellAlloc (by simp)))
  have c9 : w1.cell? ⟨w.heap.size, 9, none⟩ = some (.int .u32 z') := bkeep hb1 (cellAlloc (cellAlloc (by simp)))
  have hB : Since w w1 := sinceA2 (Since.alloc (Since.refl w)) hb1
  have OV : Own w1 (w.heap.size + 1) (.int .u64 V) (.int .u64 W) := ownKeep hb1 (ownFst _ _ _ _ _ _ (by simp))
  have OU : Own w1 (w.heap.size + 1 + 1) (.int .u64 V') (.int .u64 W') := ownKeep hb1 (ownSnd _ _ _ _ _ (by simp))
  clear hb1
  go_wp2_with fail
  go_at_call 23
  refine (hpr _).mono ?_
  rintro e w2 ⟨B, f, rfl, hP, hV, hb2⟩
  (with_reducible (first | (replace hb2 := undrew hb2) | skip))
  replace hB := hB.step hb2
  replace OV := ownKeep hb2 OV
  replace OU := ownKeep hb2 OU
  clear hb2 hpr c0 c1 c2 c3 c4 c5 c6 c7 c8 c9
  go_wp2_with fail
  replace hV := Lib.hid hV
  go_loopw [36] (fun vi wr => ∃ k : Int, 0 ≤ k ∧ k ≤ 3 ∧ vi = .int .i64 k ∧ Since w wr ∧ PrsAt wr B f ∧ Own wr (w.heap.size + 1) (.int .u64 V) (.int .u64 W) ∧ Own wr (w.heap.size + 1 + 1) (.int .u64 V') (.int .u64 W')) (fun vi _ => 3 - (intOf vi).toNat)
  case atStart => exact ⟨0, by omega, by omega, rfl, hB, hP, OV, OU⟩
  case round =>
    clear hB hP OV OU
    obtain ⟨k, k0, k5, rfl, hB, hP, OV, OU⟩ := hrel
    by_cases hk : k < 3
    · obtain ⟨p0, p1, p2, p3⟩ := hP (k.toNat + 1) (by omega)
      obtain ⟨v1, v2⟩ := hV.out (k.toNat + 1) (by omega) (by omega)
      obtain ⟨q0, hq0⟩ : ∃ q, (f (k.toNat + 1)).1 = q := ⟨_, rfl⟩
      obtain ⟨q1, hq1⟩ : ∃ q, (f (k.toNat + 1)).2.1 = q := ⟨_, rfl⟩
      obtain ⟨q2, hq2⟩ : ∃ q, (f (k.toNat + 1)).2.2.1 = q := ⟨_, rfl⟩
      obtain ⟨q3, hq3⟩ : ∃ q, (f (k.toNat + 1)).2.2.2 = q := ⟨_, rfl⟩
      rw [hq0] at p0
      rw [hq1] at p1
      rw [hq2] at p2
      rw [hq3] at p3
      rw [hq0, hq1] at v1
      rw [hq2, hq3] at v2
      clear hq0 hq1 hq2 hq3
      rw [show 4 * (k.toNat + 1) = 4 + k.toNat * 4 by omega] at p0 p1 p2 p3
      obtain ⟨a0, a1, a2⟩ := ckS_valid v1
      obtain ⟨b0, b1, b2⟩ := ckS_valid v2
      go_upto_region 6 with fail
      go_cut [11, 12] from 37 to 137 (fun va vb wx => ∃ p q : Nat, va = .pointer (some ⟨p, 0, none⟩) ∧ vb = .pointer (some ⟨q, 0, none⟩) ∧ Own wx p (.int .i64 q0) (.int .i64 q1) ∧ Own wx q (.int .i64 q2) (.int .i64 q3) ∧ Since w wx ∧ PrsAt wx B f ∧ Own wx (w.heap.size + 1) (.int .u64 V) (.int .u64 W) ∧ Own wx (w.heap.size + 1 + 1) (.int .u64 V') (.int .u64 W'))
      case first =>
        clear p0 p1 p2 p3
        replace hB : Since w (wr.alloc (.cells #[.int .i64 q0, .int .i64 q1, .int .i64 q2, .int .i64 q3] 29)) := hB.alloc
        replace hP : PrsAt (wr.alloc (.cells #[.int .i64 q0, .int .i64 q1, .int .i64 q2, .int .i64 q3] 29)) B f := hP.alloc
        replace OV : Own (wr.alloc (.cells #[.int .i64 q0, .int .i64 q1, .int .i64 q2, .int .i64 q3] 29)) (w.heap.size + 1) (.int .u64 V) (.int .u64 W) := ownAlloc OV
        replace OU : Own (wr.alloc (.cells #[.int .i64 q0, .int .i64 q1, .int .i64 q2, .int .i64 q3] 29)) (w.heap.size + 1 + 1) (.int .u64 V') (.int .u64 W') := ownAlloc OU
        go_region
        all_goals (go_wp2_with fail; go_meet)
        all_goals exact ⟨_, _, rfl, rfl, Own.drew (by first | exact ownFst _ _ _ _ _ _ (by simp) | exact ownSnd _ _ _ _ _ (by simp)), Own.drew (by first | exact ownFst _ _ _ _ _ _ (by simp) | exact ownSnd _ _ _ _ _ (by simp)), (hB.alloc.alloc).drew, (hP.alloc.alloc).drew, Own.drew (ownAlloc (ownAlloc OV)), Own.drew (ownAlloc (ownAlloc OU))⟩
      case rest =>
        obtain ⟨p, q, rfl, rfl, OA, OD, hB, hP, OV, OU⟩ := hcut
        clear p0 p1 p2 p3
        obtain ⟨X, hX, X0, X1⟩ := place V a1
        have fX := fun w => at_any q0 q1 V w a0 a1 a2 V0 V1
        rw [hX] at fX
        clear hX
        obtain ⟨Y, hX, Y0, Y1⟩ := place W b1
        have fY := fun w => at_any q2 q3 W w b0 b1 b2 W0 W1
        rw [hX] at fY
        clear hX
        obtain ⟨S, hX, S0, S1⟩ := place V' a1
        have fS := fun w => at_any q0 q1 V' w a0 a1 a2 V'0 V'1
        rw [hX] at fS
        clear hX
        obtain ⟨T, hX, T0, T1⟩ := place W' b1
        have fT := fun w => at_any q2 q3 W' w b0 b1 b2 W'0 W'1
        rw [hX] at fT
        clear hX
        obtain ⟨c0, hc0⟩ : ∃ c0, min X S = c0 := ⟨_, rfl⟩
        obtain ⟨c1, hc1⟩ : ∃ c1, max X S = c1 := ⟨_, rfl⟩
        obtain ⟨e0, he0⟩ : ∃ e0, min Y T = e0 := ⟨_, rfl⟩
        obtain ⟨e1, he1⟩ : ∃ e1, max Y T = e1 := ⟨_, rfl⟩
        have C0 : q0 ≤ c0 := by omega
        have C1 : c0 ≤ c1 := by omega
        have C2 : c1 ≤ q1 := by omega
        have E0 : q2 ≤ e0 := by omega
        have E1 : e0 ≤ e1 := by omega
        have E2 : e1 ≤ q3 := by omega
        clear X0 X1 Y0 Y1 S0 S1 T0 T1
        have hidx : ∀ j : Int, 0 ≤ j → j < 7 → ∃ (g : Nat) (ra rb rc sa sb sc : Int), (∀ w, (Instr.index 62 (.agg #[.func (.func 24) #[] #[], .func (.func 26) #[] #[], .func (.func 49) #[] #[], .func (.func 53) #[] #[], .func (.func 32) #[] #[], .func (.func 34) #[] #[], .func (.func 36) #[] #[]]) (.int .i64 j)).run Tryd.prog w = .ok (.func (.func g) #[] #[]) w) ∧ (∀ (args : Array Value) (w : World), Sem.run Tryd.prog (callFunc g args) w = .ok (.enter g args) w) ∧ FnIn g c0 c1 e0 e1 q0 q1 q2 q3 ra rb rc sa sb sc := by
          intro j h0 h1
          obtain rfl | rfl | rfl | rfl | rfl | rfl | rfl : j = 0 ∨ j = 1 ∨ j = 2 ∨ j = 3 ∨ j = 4 ∨ j = 5 ∨ j = 6 := by omega
          · exact ⟨_, _, _, _, _, _, _, fun _ => by kernel_rfl, fun _ _ => by kernel_rfl, fnIn_mk 24 c0 c1 e0 e1 q0 q1 q2 q3 sAddR sAdd_any (nar_add v1 v2 C0 C1 C2 E0 E1 E2)⟩
          · exact ⟨_, _, _, _, _, _, _, fun _ => by kernel_rfl, fun _ _ => by kernel_rfl, fnIn_mk 26 c0 c1 e0 e1 q0 q1 q2 q3 sSubR sSub_any (nar_sub v1 v2 C0 C1 C2 E0 E1 E2)⟩
          · exact ⟨_, _, _, _, _, _, _, fun _ => by kernel_rfl, fun _ _ => by kernel_rfl, fnIn_mk 49 c0 c1 e0 e1 q0 q1 q2 q3 sMulR sMul_any (nar_mul v1 v2 C0 C1 C2 E0 E1 E2)⟩
          · exact ⟨_, _, _, _, _, _, _, fun _ => by kernel_rfl, fun _ _ => by kernel_rfl, fnIn_mk 53 c0 c1 e0 e1 q0 q1 q2 q3 sDivR sDiv_any (nar_div v1 v2 C0 C1 C2 E0 E1 E2)⟩
          · exact ⟨_, _, _, _, _, _, _, fun _ => by kernel_rfl, fun _ _ => by kernel_rfl, fnIn_mk 32 c0 c1 e0 e1 q0 q1 q2 q3 sMinR sMin_any (nar_min v1 v2 C0 C1 C2 E0 E1 E2)⟩
          · exact ⟨_, _, _, _, _, _, _, fun _ => by kernel_rfl, fun _ _ => by kernel_rfl, fnIn_mk 34 c0 c1 e0 e1 q0 q1 q2 q3 sMaxR sMax_any (nar_max v1 v2 C0 C1 C2 E0 E1 E2)⟩
          · exact ⟨_, _, _, _, _, _, _, fun _ => by kernel_rfl, fun _ _ => by kernel_rfl, fnIn_mk 36 c0 c1 e0 e1 q0 q1 q2 q3 sHullR sHull_any (nar_hull v1 v2 C0 C1 C2 E0 E1 E2)⟩
        replace hidx := Lib.hid hidx
        obtain ⟨N, hN⟩ : ∃ N, IntKind.u64.wrap n = N := ⟨_, rfl⟩
        have N0 : 0 ≤ N ∧ N ≤ 18446744073709551615 := by rw [← hN]; exact u64wrap_bd n
        obtain ⟨N0, N1⟩ := N0
        obtain ⟨K, hK⟩ : ∃ K, N % 17 = K := ⟨_, rfl⟩
        have K0 : 0 ≤ K := by omega
        have K1 : K ≤ 16 := by omega
        have hp := nar_pow v1 C0 C1 C2 K K0 K1
        have ha := nar_abs v1 C0 C1 C2
        have p1 := fun w => sPow_any c0 c1 K w
        have p2 := fun w => sPow_any q0 q1 K w
        have p3 := fun w => sAbs_any c0 c1 w
        have p4 := fun w => sAbs_any q0 q1 w
        unfold Ins at hp ha
        generalize sPowR c0 c1 K = F at *
        obtain ⟨Fa, Fb, Fc⟩ := F
        generalize sPowR q0 q1 K = G at *
        obtain ⟨Ga, Gb, Gc⟩ := G
        generalize sAbsR c0 c1 = H at *
        obtain ⟨Ha, Hb, Hc⟩ := H
        generalize sAbsR q0 q1 = I at *
        obtain ⟨Ia, Ib, Ic⟩ := I
        simp only [] at p1 p2 p3 p4 hp ha
        have i1 := fun w => insideN_true Fa Fb Fc Ga Gb Gc w hp
        have i2 := fun w => insideN_true Ha Hb Hc Ia Ib Ic w ha
        clear hp ha v1 v2 C0 C1 C2 E0 E1 E2 a0 a1 a2 b0 b1 b2
        go_wp2_with fail
        go_region_held3 (fun w' => w'.cell? ⟨p, 0, none⟩ = some (.int .i64 q0) ∧ w'.cell? ⟨p, 1, none⟩ = some (.int .i64 q1) ∧ w'.cell? ⟨q, 0, none⟩ = some (.int .i64 q2) ∧ w'.cell? ⟨q, 1, none⟩ = some (.int .i64 q3) ∧ w'.cell? ⟨w.heap.size + 1, 0, none⟩ = some (.int .u64 V) ∧ w'.cell? ⟨w.heap.size + 1, 1, none⟩ = some (.int .u64 W) ∧ w'.cell? ⟨w.heap.size + 1 + 1, 0, none⟩ = some (.int .u64 V') ∧ w'.cell? ⟨w.heap.size + 1 + 1, 1, none⟩ = some (.int .u64 W'))
          ((first | exact ⟨OA.1, OA.2.1, OD.1, OD.2.1, OV.1, OV.2.1, OU.1, OU.2.1⟩))
          (first | (go_at_call 48; (with_reducible refine (fX _).mono ?_); rintro e uz ⟨rfl, hb⟩; (with_reducible (first | (replace hb := undrew hb) | skip)); replace OA := ownKeep hb OA; replace OD := ownKeep hb OD; replace OV := ownKeep hb OV; replace OU := ownKeep hb OU; replace hB := hB.step hb; replace hP := PrsAt.keep hb hP; clear hb) | (go_at_call 48; (with_reducible refine (fY _).mono ?_); rintro e uz ⟨rfl, hb⟩; (with_reducible (first | (replace hb := undrew hb) | skip)); replace OA := ownKeep hb OA; replace OD := ownKeep hb OD; replace OV := ownKeep hb OV; replace OU := ownKeep hb OU; replace hB := hB.step hb; replace hP := PrsAt.keep hb hP; clear hb))
        clear fX fY
        go_wp2_with fail
        go_region_held3 (fun w' => w'.cell? ⟨p, 0, none⟩ = some (.int .i64 q0) ∧ w'.cell? ⟨p, 1, none⟩ = some (.int .i64 q1) ∧ w'.cell? ⟨q, 0, none⟩ = some (.int .i64 q2) ∧ w'.cell? ⟨q, 1, none⟩ = some (.int .i64 q3) ∧ w'.cell? ⟨w.heap.size + 1, 0, none⟩ = some (.int .u64 V) ∧ w'.cell? ⟨w.heap.size + 1, 1, none⟩ = some (.int .u64 W) ∧ w'.cell? ⟨w.heap.size + 1 + 1, 0, none⟩ = some (.int .u64 V') ∧ w'.cell? ⟨w.heap.size + 1 + 1, 1, none⟩ = some (.int .u64 W'))
          ((first | exact ⟨OA.1, OA.2.1, OD.1, OD.2.1, OV.1, OV.2.1, OU.1, OU.2.1⟩))
          (first | (go_at_call 48; (with_reducible refine (fS _).mono ?_); rintro e uz ⟨rfl, hb⟩; (with_reducible (first | (replace hb := undrew hb) | skip)); replace OA := ownKeep hb OA; replace OD := ownKeep hb OD; replace OV := ownKeep hb OV; replace OU := ownKeep hb OU; replace hB := hB.step hb; replace hP := PrsAt.keep hb hP; clear hb) | (go_at_call 48; (with_reducible refine (fT _).mono ?_); rintro e uz ⟨rfl, hb⟩; (with_reducible (first | (replace hb := undrew hb) | skip)); replace OA := ownKeep hb OA; replace OD := ownKeep hb OD; replace OV := ownKeep hb OV; replace OU := ownKeep hb OU; replace hB := hB.step hb; replace hP := PrsAt.keep hb hP; clear hb))
        clear fS fT
        go_wp2_with fail
        clear hc0 hc1 he0 he1
        go_loopw [75] (fun vi wx => ∃ j : Int, 0 ≤ j ∧ j ≤ 7 ∧ vi = .int .i64 j ∧ Since w wx ∧ PrsAt wx B f ∧ Own wx p (.int .i64 q0) (.int .i64 q1) ∧ Own wx q (.int .i64 q2) (.int .i64 q3) ∧ Own wx uz.heap.size (.int .i64 c0) (.int .i64 c1) ∧ Own wx (uz.heap.size + 1) (.int .i64 e0) (.int .i64 e1) ∧ Own wx (w.heap.size + 1) (.int .u64 V) (.int .u64 W) ∧ Own wx (w.heap.size + 1 + 1) (.int .u64 V') (.int .u64 W')) (fun vi _ => 7 - (intOf vi).toNat)
        case atStart => exact ⟨0, by omega, by omega, rfl, (hB.alloc).alloc, (hP.alloc).alloc, ownAlloc (ownAlloc OA), ownAlloc (ownAlloc OD), ownFst _ _ _ _ _ _ rfl, ownSnd _ _ _ _ _ (by simp), ownAlloc (ownAlloc OV), ownAlloc (ownAlloc OU)⟩
        case round =>
          clear hB hP OA OD OV OU
          obtain ⟨j, j0, j7, rfl, hB, hP, OA, OD, OC, OE, OV, OU⟩ := hrel
          by_cases hj : j < 7
          · obtain ⟨g, ra, rb, rc, sa, sb, sc, hi, hrun, hg1, hg2, hin⟩ := hidx.out j j0 hj
            have hins := fun w => insideN_true ra rb rc sa sb sc w hin
            clear hidx p1 p2 p3 p4 i1 i2 hin hN hK N0 N1 K0 K1
            have C0 := OC.1
            have C1 := OC.2.1
            have E0 := OE.1
            have E1 := OE.2.1
            go_wp2_with fail
            refine (hg1 _).mono ?_
            rintro e u11 ⟨rfl, hb11⟩
            (with_reducible (first | (replace hb11 := undrew hb11) | skip))
            clear hg1
            replace OA := ownKeep hb11 OA
            replace OD := ownKeep hb11 OD
            replace OC := ownKeep hb11 OC
            replace OE := ownKeep hb11 OE
            replace OV := ownKeep hb11 OV
            replace OU := ownKeep hb11 OU
            replace hB := hB.step hb11
            replace hP := PrsAt.keep hb11 hP
            clear C0 C1 E0 E1
            clear hb11
            have N_B_S := Lib.hid (Nat.ne_of_lt (World.block_lt_of_cell? u11 _ (hP 0 (by omega)).1))
            have N_A_S := Lib.hid (Nat.ne_of_lt OA.2.2.2.2)
            have N_D_S := Lib.hid (Nat.ne_of_lt OD.2.2.2.2)
            have N_C_S := Lib.hid (Nat.ne_of_lt OC.2.2.2.2)
            have N_E_S := Lib.hid (Nat.ne_of_lt OE.2.2.2.2)
            have N_V_S := Lib.hid (Nat.ne_of_lt OV.2.2.2.2)
            have N_U_S := Lib.hid (Nat.ne_of_lt OU.2.2.2.2)
            have L_S := Lib.hid hB.out.size
            have A0 := OA.1
            have A1 := OA.2.1
            have D0 := OD.1
            have D1 := OD.2.1
            have lA := OA.2.2.2.2
            have lD := OD.2.2.2.2
            go_wp2_with fail
            clear lA lD
            refine (hg2 _).mono ?_
            rintro e u12 ⟨rfl, hb12⟩
            (with_reducible (first | (replace hb12 := undrew hb12) | skip))
            clear hg2
            replace OA := ownKeep hb12 (ownAlloc OA)
            replace OD := ownKeep hb12 (ownAlloc OD)
            replace OC := ownKeep hb12 (ownAlloc OC)
            replace OE := ownKeep hb12 (ownAlloc OE)
            replace OV := ownKeep hb12 (ownAlloc OV)
            replace OU := ownKeep hb12 (ownAlloc OU)
            replace hB := sinceA hB hb12
            replace hP := PrsAt.keep hb12 (PrsAt.alloc hP)
            have OS := ownNew hb12
            clear A0 A1 D0 D1
            clear hb12
            have N_B_R := Lib.hid (Nat.ne_of_lt (World.block_lt_of_cell? u12 _ (hP 0 (by omega)).1))
            have N_A_R := Lib.hid (Nat.ne_of_lt OA.2.2.2.2)
            have N_D_R := Lib.hid (Nat.ne_of_lt OD.2.2.2.2)
            have N_C_R := Lib.hid (Nat.ne_of_lt OC.2.2.2.2)
            have N_E_R := Lib.hid (Nat.ne_of_lt OE.2.2.2.2)
            have N_V_R := Lib.hid (Nat.ne_of_lt OV.2.2.2.2)
            have N_U_R := Lib.hid (Nat.ne_of_lt OU.2.2.2.2)
            have N_S_R := Lib.hid (Nat.ne_of_lt OS.2.2.2.2)
            have L_R := Lib.hid hB.out.size
            replace OA : Own (u12.alloc (.cells #[.int .i64 sa, .int .i64 sb] 23)) _ _ _ := ownAlloc OA
            replace OD : Own (u12.alloc (.cells #[.int .i64 sa, .int .i64 sb] 23)) _ _ _ := ownAlloc OD
            replace OC : Own (u12.alloc (.cells #[.int .i64 sa, .int .i64 sb] 23)) _ _ _ := ownAlloc OC
            replace OE : Own (u12.alloc (.cells #[.int .i64 sa, .int .i64 sb] 23)) _ _ _ := ownAlloc OE
            replace OV : Own (u12.alloc (.cells #[.int .i64 sa, .int .i64 sb] 23)) _ _ _ := ownAlloc OV
            replace OU : Own (u12.alloc (.cells #[.int .i64 sa, .int .i64 sb] 23)) _ _ _ := ownAlloc OU
            replace OS : Own (u12.alloc (.cells #[.int .i64 sa, .int .i64 sb] 23)) _ _ _ := ownAlloc OS
            have OR := ownHere u12 (.int .i64 sa) (.int .i64 sb) 23
            replace hB : Since w (u12.alloc (.cells #[.int .i64 sa, .int .i64 sb] 23)) := hB.alloc
            replace hP : PrsAt (u12.alloc (.cells #[.int .i64 sa, .int .i64 sb] 23)) _ _ := hP.alloc
            have S0 := OS.1
            have S1 := OS.2.1
            have R0 := OR.1
            have R1 := OR.2.1
            have lS := OS.2.2.2.2
            have lR := OR.2.2.2.2
            go_wp2_with fail
            clear lS lR
            go_at_call 63
            refine (hins _).mono ?_
            rintro e u13 ⟨rfl, hb13⟩
            (with_reducible (first | (replace hb13 := undrew hb13) | skip))
            clear hins
            replace OA := ownKeep hb13 OA
            replace OD := ownKeep hb13 OD
            replace OC := ownKeep hb13 OC
            replace OE := ownKeep hb13 OE
            replace OV := ownKeep hb13 OV
            replace OU := ownKeep hb13 OU
            replace OS := ownKeep hb13 OS
            replace OR := ownKeep hb13 OR
            replace hB := hB.step hb13
            replace hP := PrsAt.keep hb13 hP
            clear S0 S1 R0 R1
            have S0 := OS.1
            have S1 := OS.2.1
            have R0 := OR.1
            have R1 := OR.2.1
            clear hb13
            clear S0 S1 R0 R1
            go_wp2_with fail
            go_roundw
            case rel => exact ⟨j + 1, by omega, by omega, by go_num, hB, hP, OA, OD, OC, OE, OV, OU⟩
            case measure => simp [intOf]; omega
          · clear hidx
            have C0 := OC.1
            have C1 := OC.2.1
            have lC := OC.2.2.2.2
            go_wp2_with fail
            clear lC
            go_at_call 64
            refine (p1 _).mono ?_
            rintro e u31 ⟨rfl, hb31⟩
            (with_reducible (first | (replace hb31 := undrew hb31) | skip))
            clear p1
            replace OA := ownKeep hb31 OA
            replace OD := ownKeep hb31 OD
            replace OC := ownKeep hb31 OC
            replace OE := ownKeep hb31 OE
            replace OV := ownKeep hb31 OV
            replace OU := ownKeep hb31 OU
            replace hB := hB.step hb31
            replace hP := PrsAt.keep hb31 hP
            clear C0 C1
            have C0 := OC.1
            have C1 := OC.2.1
            clear hb31
            clear C0 C1
            have N_B_J := Lib.hid (Nat.ne_of_lt (World.block_lt_of_cell? u31 _ (hP 0 (by omega)).1))
            have N_A_J := Lib.hid (Nat.ne_of_lt OA.2.2.2.2)
            have N_D_J := Lib.hid (Nat.ne_of_lt OD.2.2.2.2)
            have N_C_J := Lib.hid (Nat.ne_of_lt OC.2.2.2.2)
            have N_E_J := Lib.hid (Nat.ne_of_lt OE.2.2.2.2)
            have N_V_J := Lib.hid (Nat.ne_of_lt OV.2.2.2.2)
            have N_U_J := Lib.hid (Nat.ne_of_lt OU.2.2.2.2)
            have L_J := Lib.hid hB.out.size
            clear hN hK N0 N1 K0 K1
            have A0 := OA.1
            have A1 := OA.2.1
            have lA := OA.2.2.2.2
            go_wp2_with fail
            clear lA
            go_at_call 64
            refine (p2 _).mono ?_
            rintro e u32 ⟨rfl, hb32⟩
            (with_reducible (first | (replace hb32 := undrew hb32) | skip))
            clear p2
            replace OA := ownKeep hb32 (ownAlloc OA)
            replace OD := ownKeep hb32 (ownAlloc OD)
            replace OC := ownKeep hb32 (ownAlloc OC)
            replace OE := ownKeep hb32 (ownAlloc OE)
            replace OV := ownKeep hb32 (ownAlloc OV)
            replace OU := ownKeep hb32 (ownAlloc OU)
            replace hB := sinceA hB hb32
            replace hP := PrsAt.keep hb32 (PrsAt.alloc hP)
            have OJ := ownNew hb32
            clear A0 A1
            have A0 := OA.1
            have A1 := OA.2.1
            clear hb32
            clear A0 A1
            have N_B_Q := Lib.hid (Nat.ne_of_lt (World.block_lt_of_cell? u32 _ (hP 0 (by omega)).1))
            have N_A_Q := Lib.hid (Nat.ne_of_lt OA.2.2.2.2)
            have N_D_Q := Lib.hid (Nat.ne_of_lt OD.2.2.2.2)
            have N_C_Q := Lib.hid (Nat.ne_of_lt OC.2.2.2.2)
            have N_E_Q := Lib.hid (Nat.ne_of_lt OE.2.2.2.2)
            have N_V_Q := Lib.hid (Nat.ne_of_lt OV.2.2.2.2)
            have N_U_Q := Lib.hid (Nat.ne_of_lt OU.2.2.2.2)
            have N_J_Q := Lib.hid (Nat.ne_of_lt OJ.2.2.2.2)
            have L_Q := Lib.hid hB.out.size
            replace OA : Own (u32.alloc (.cells #[.int .i64 Ga, .int .i64 Gb] 23)) _ _ _ := ownAlloc OA
            replace OD : Own (u32.alloc (.cells #[.int .i64 Ga, .int .i64 Gb] 23)) _ _ _ := ownAlloc OD
            replace OC : Own (u32.alloc (.cells #[.int .i64 Ga, .int .i64 Gb] 23)) _ _ _ := ownAlloc OC
            replace OE : Own (u32.alloc (.cells #[.int .i64 Ga, .int .i64 Gb] 23)) _ _ _ := ownAlloc OE
            replace OV : Own (u32.alloc (.cells #[.int .i64 Ga, .int .i64 Gb] 23)) _ _ _ := ownAlloc OV
            replace OU : Own (u32.alloc (.cells #[.int .i64 Ga, .int .i64 Gb] 23)) _ _ _ := ownAlloc OU
            replace OJ : Own (u32.alloc (.cells #[.int .i64 Ga, .int .i64 Gb] 23)) _ _ _ := ownAlloc OJ
            have OQ := ownHere u32 (.int .i64 Ga) (.int .i64 Gb) 23
            replace hB : Since w (u32.alloc (.cells #[.int .i64 Ga, .int .i64 Gb] 23)) := hB.alloc
            replace hP : PrsAt (u32.alloc (.cells #[.int .i64 Ga, .int .i64 Gb] 23)) _ _ := hP.alloc
            have J0 := OJ.1
            have J1 := OJ.2.1
            have Q0 := OQ.1
            have Q1 := OQ.2.1
            have lJ := OJ.2.2.2.2
            have lQ := OQ.2.2.2.2
            go_wp2_with fail
            clear lJ lQ
            go_at_call 63
            refine (i1 _).mono ?_
            rintro e u33 ⟨rfl, hb33⟩
            (with_reducible (first | (replace hb33 := undrew hb33) | skip))
            clear i1
            replace OA := ownKeep hb33 OA
            replace OD := ownKeep hb33 OD
            replace OC := ownKeep hb33 OC
            replace OE := ownKeep hb33 OE
            replace OV := ownKeep hb33 OV
            replace OU := ownKeep hb33 OU
            replace OJ := ownKeep hb33 OJ
            replace OQ := ownKeep hb33 OQ
            replace hB := hB.step hb33
            replace hP := PrsAt.keep hb33 hP
            clear J0 J1 Q0 Q1
            have J0 := OJ.1
            have J1 := OJ.2.1
            have Q0 := OQ.1
            have Q1 := OQ.2.1
            clear hb33
            clear J0 J1 Q0 Q1
            have C0 := OC.1
            have C1 := OC.2.1
            have lC := OC.2.2.2.2
            go_wp2_with fail
            clear lC
            go_at_call 30
            refine (p3 _).mono ?_
            rintro e u34 ⟨rfl, hb34⟩
            (with_reducible (first | (replace hb34 := undrew hb34) | skip))
            clear p3
            replace OA := ownKeep hb34 OA
            replace OD := ownKeep hb34 OD
            replace OC := ownKeep hb34 OC
            replace OE := ownKeep hb34 OE
            replace OV := ownKeep hb34 OV
            replace OU := ownKeep hb34 OU
            replace OJ := ownKeep hb34 OJ
            replace OQ := ownKeep hb34 OQ
            replace hB := hB.step hb34
            replace hP := PrsAt.keep hb34 hP
            clear C0 C1
            have C0 := OC.1
            have C1 := OC.2.1
            clear hb34
            clear C0 C1
            have A0 := OA.1
            have A1 := OA.2.1
            have J0 := OJ.1
            have J1 := OJ.2.1
            have Jf0 := OJ.2.2.1
            have Jf1 := OJ.2.2.2.1
            have lA := OA.2.2.2.2
            have nA := N_A_J.out
            go_wp2_with fail
            clear A0 A1 lA nA J0 J1 Jf0 Jf1
            go_at_call 30
            refine (p4 _).mono ?_
            rintro e u35 ⟨rfl, hb35⟩
            (with_reducible (first | (replace hb35 := undrew hb35) | skip))
            clear p4
            replace OA := ownKeep hb35 (Own.far_set2 OA N_A_J.out)
            replace OD := ownKeep hb35 (Own.far_set2 OD N_D_J.out)
            replace OC := ownKeep hb35 (Own.far_set2 OC N_C_J.out)
            replace OE := ownKeep hb35 (Own.far_set2 OE N_E_J.out)
            replace OV := ownKeep hb35 (Own.far_set2 OV N_V_J.out)
            replace OU := ownKeep hb35 (Own.far_set2 OU N_U_J.out)
            replace OJ := ownKeep hb35 (Own.of_set2 OJ)
            replace OQ := ownKeep hb35 (Own.far_set2 OQ N_J_Q.out.symm)
            replace hB := (Since.set2 hB L_J.out).step hb35
            replace hP := PrsAt.keep hb35 (PrsAt.set2 hP N_B_J.out)
            clear hb35
            have J0 := OJ.1
            have J1 := OJ.2.1
            have Q0 := OQ.1
            have Q1 := OQ.2.1
            have Qf0 := OQ.2.2.1
            have Qf1 := OQ.2.2.2.1
            have lJ := OJ.2.2.2.2
            have nJ := N_J_Q.out
            go_wp2_with fail
            clear J0 J1 lJ nJ Q0 Q1 Qf0 Qf1
            go_at_call 63
            refine (i2 _).mono ?_
            rintro e u36 ⟨rfl, hb36⟩
            (with_reducible (first | (replace hb36 := undrew hb36) | skip))
            clear i2
            replace OA := ownKeep hb36 (Own.far_set2 OA N_A_Q.out)
            replace OD := ownKeep hb36 (Own.far_set2 OD N_D_Q.out)
            replace OC := ownKeep hb36 (Own.far_set2 OC N_C_Q.out)
            replace OE := ownKeep hb36 (Own.far_set2 OE N_E_Q.out)
            replace OV := ownKeep hb36 (Own.far_set2 OV N_V_Q.out)
            replace OU := ownKeep hb36 (Own.far_set2 OU N_U_Q.out)
            replace OJ := ownKeep hb36 (Own.far_set2 OJ N_J_Q.out)
            replace OQ := ownKeep hb36 (Own.of_set2 OQ)
            replace hB := (Since.set2 hB L_Q.out).step hb36
            replace hP := PrsAt.keep hb36 (PrsAt.set2 hP N_B_Q.out)
            clear hb36
            go_wp2_with fail
            go_roundw
            case rel => exact ⟨k + 1, by omega, by omega, by go_num, hB, hP, OV, OU⟩
            case measure => simp [intOf]; omega
    · clear hV
      go_wp2
      go_wp2
      go_ret
      exact ⟨rfl, hB.out⟩

end Go.Proofs.YtpfmhpmpjejdcaaDoor
