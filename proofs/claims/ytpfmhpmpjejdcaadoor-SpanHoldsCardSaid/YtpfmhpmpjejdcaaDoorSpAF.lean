/-
  The walk of SpanHolds.
-/
import Derived.Test.YtpfmhpmpjejdcaaDoorSpAE
import Derived.Test.YtpfmhpmpjejdcaaDoorSpAB
import Derived.Deep.RegionHeld3
namespace Go.Proofs.YtpfmhpmpjejdcaaDoor
open Go.RowKit

set_option maxRecDepth 100000 in
set_option maxHeartbeats 4000000 in
theorem spanHolds_true (a b c d x y z x' y' z' V W n m : Int) (w : World) (hT0 : Tens w) (y0 : 0 ≤ y) (y1 : y ≤ 255) (z0 : 0 ≤ z) (z1 : z ≤ 4294967295) (y0' : 0 ≤ y') (y1' : y' ≤ 255) (z0' : 0 ≤ z') (z1' : z' ≤ 4294967295) (V0 : 0 ≤ V) (V1 : V ≤ 18446744073709551615) (W0 : 0 ≤ W) (W1 : W ≤ 18446744073709551615) (m0 : -9223372036854775808 ≤ m) (m1 : m ≤ 9223372036854775807) :
    Calls Tryd.prog 7 #[.agg #[.int .i64 a, .int .i64 b, .int .i64 c, .int .i64 d, .int .i64 x, .int .u8 y, .int .u32 z, .int .i64 x', .int .u8 y', .int .u32 z'], .agg #[.int .u64 V, .int .u64 W], .int .i64 n, .int .i64 m] w fun e w' => e = .returned (.bool true) ∧ Below w.heap.size w w' := by
  have hpr := fun w => pairs_any a b c d x y z x' y' z' w y0 y1 z0 z1 y0' y1' z0' z1'
  clear y0 y1 z0 z1 y0' y1' z0' z1'
  go_enter Tryd.func7, Tryd.ntmps7
  go_wp2_with fail
  go_at_call 12
  refine (works_true _ (hT0.below (by (repeat (first | with_reducible exact Below.refl _ _ | with_reducible assumption | refine Below.alloc ?_ (by (try simp); try omega) _ | refine Below.setCell ?_ (by (try simp); try omega) _ | refine below_drewN ?_ _ | refine Below.drew ?_ | (with_reducible refine Below.trans ?_ (Below.mono (by assumption) (by (try simp); try omega)))))))).mono ?_
  rintro e w1 ⟨rfl, hb1⟩
  have c0 : w1.cell? ⟨w.heap.size, 0, none⟩ = some (.int .i64 a) := bkeep hb1 (by simp)
  have c1 : w1.cell? ⟨w.heap.size, 1, none⟩ = some (.int .i64 b) := bkeep hb1 (by simp)
  have c2 : w1.cell? ⟨w.heap.size, 2, none⟩ = some (.int .i64 c) := bkeep hb1 (by simp)
  have c3 : w1.cell? ⟨w.heap.size, 3, none⟩ = some (.int .i64 d) := bkeep hb1 (by simp)
  have c4 : w1.cell? ⟨w.heap.size, 4, none⟩ = some (.int .i64 x) := bkeep hb1 (by simp)
  have c5 : w1.cell? ⟨w.heap.size, 5, none⟩ = some (.int .u8 y) := bkeep hb1 (by simp)
  have c6 : w1.cell? ⟨w.heap.size, 6, none⟩ = some (.int .u32 z) := bkeep hb1 (by simp)
  have c7 : w1.cell? ⟨w.heap.size, 7, none⟩ = some (.int .i64 x') := bkeep hb1 (by simp)
  have c8 : w1.cell? ⟨w.heap.size, 8, none⟩ = some (.int .u8 y') := bkeep hb1 (by simp)
  have c9 : w1.cell? ⟨w.heap.size, 9, none⟩ = some (.int .u32 z') := bkeep hb1 (by simp)
  have hB : Since w w1 := sinceA2 (Since.refl w) hb1
  have OV : Own w1 (w.heap.size + 1) (.int .u64 V) (.int .u64 W) := ownKeep hb1 (ownSnd _ _ _ _ _ (by simp))
  clear hb1
  go_wp2_with fail
  go_at_call 23
  refine (hpr _).mono ?_
  rintro e w2 ⟨B, f, rfl, hP, hV, hb2⟩
  (with_reducible (first | (replace hb2 := undrew hb2) | skip))
  replace hB := hB.step hb2
  replace OV := ownKeep hb2 OV
  clear hb2 hpr c0 c1 c2 c3 c4 c5 c6 c7 c8 c9
  go_wp2_with fail
  replace hV := Lib.hid hV
  go_loopw [27] (fun vi wr => ∃ k : Int, 0 ≤ k ∧ k ≤ 3 ∧ vi = .int .i64 k ∧ Since w wr ∧ PrsAt wr B f ∧ Own wr (w.heap.size + 1) (.int .u64 V) (.int .u64 W)) (fun vi _ => 3 - (intOf vi).toNat)
  case atStart => exact ⟨0, by omega, by omega, rfl, hB, hP, OV⟩
  case round =>
    clear hB hP OV
    obtain ⟨k, k0, k5, rfl, hB, hP, OV⟩ := hrel
    by_cases hk : k < 3
    · obtain ⟨p0, p1, p2, p3⟩ := hP (k.toNat + 1) (by omega)
      obtain ⟨v1, v2⟩ := hV.out (k.toNat + 1) (by omega) (by omega)
      obtain ⟨q0, hq0⟩ : ∃ q, (f (k.toNat + 1)).1 = q := ⟨_, rfl⟩
      obtain ⟨q1, hq1⟩ : ∃ q, (f (k.toNat + 1)).2.1 = q := ⟨_, rfl⟩
      obtain ⟨q2, hq2⟩ : ∃ q, (f (k.toNat + 1)).2.2.1 = q := ⟨_, rfl⟩
      obtain ⟨q3, hq3⟩ : ∃ q, (f (k.toNat + 1)).2.2.2 = q := ⟨_, rfl⟩
      rw [hq0] at p0
      rw [hq1] at p1
      rw [hq2] at p2
      rw [hq3] at p3
      rw [hq0, hq1] at v1
      rw [hq2, hq3] at v2
      clear hq0 hq1 hq2 hq3
      rw [show 4 * (k.toNat + 1) = 4 + k.toNat * 4 by omega] at p0 p1 p2 p3
      obtain ⟨a0, a1, a2⟩ := ckS_valid v1
      obtain ⟨b0, b1, b2⟩ := ckS_valid v2
      go_upto_region 6 with fail
      go_cut [11, 12] from 28 to 196 (fun va vb wx => ∃ p q : Nat, va = .pointer (some ⟨p, 0, none⟩) ∧ vb = .pointer (some ⟨q, 0, none⟩) ∧ Own wx p (.int .i64 q0) (.int .i64 q1) ∧ Own wx q (.int .i64 q2) (.int .i64 q3) ∧ Since w wx ∧ PrsAt wx B f ∧ Own wx (w.heap.size + 1) (.int .u64 V) (.int .u64 W))
      case first =>
        clear p0 p1 p2 p3
        replace hB : Since w (wr.alloc (.cells #[.int .i64 q0, .int .i64 q1, .int .i64 q2, .int .i64 q3] 29)) := hB.alloc
        replace hP : PrsAt (wr.alloc (.cells #[.int .i64 q0, .int .i64 q1, .int .i64 q2, .int .i64 q3] 29)) B f := hP.alloc
        replace OV : Own (wr.alloc (.cells #[.int .i64 q0, .int .i64 q1, .int .i64 q2, .int .i64 q3] 29)) (w.heap.size + 1) (.int .u64 V) (.int .u64 W) := ownAlloc OV
        go_region
        all_goals (go_wp2_with fail; go_meet)
        all_goals exact ⟨_, _, rfl, rfl, Own.drew (by first | exact ownFst _ _ _ _ _ _ (by simp) | exact ownSnd _ _ _ _ _ (by simp)), Own.drew (by first | exact ownFst _ _ _ _ _ _ (by simp) | exact ownSnd _ _ _ _ _ (by simp)), (hB.alloc.alloc).drew, (hP.alloc.alloc).drew, Own.drew (ownAlloc (ownAlloc OV))⟩
      case rest =>
        obtain ⟨p, q, rfl, rfl, OA, OD, hB, hP, OV⟩ := hcut
        clear p0 p1 p2 p3
        obtain ⟨X, hX, X0, X1⟩ := place V a1
        obtain ⟨Y, hY, Y0, Y1⟩ := place W b1
        have fA := fun w => at_any q0 q1 V w a0 a1 a2 V0 V1
        have fD := fun w => at_any q2 q3 W w b0 b1 b2 W0 W1
        rw [hX] at fA
        rw [hY] at fD
        clear hX hY
        obtain ⟨sa, sb, se, es, hs⟩ := add_pt v1 v2 X0 X1 Y0 Y1
        have f1 := fun w => sAdd_any q0 q1 q2 q3 w
        simp only [es] at f1
        clear es
        replace hs := Lib.hid hs
        have hM := holdsOf (r := sMulR q0 q1 q2 q3) (u := mulR false X Y) (v := mulR true X Y) fun l h e => mul_pt v1 v2 e X0 X1 Y0 Y1
        have sM := fun w => sMul_any q0 q1 q2 q3 w
        have dM := fun w => mulDown_any X Y w
        have uM := fun w => mulUp_any X Y w
        have hS := holdsOf (r := sDivR q0 q1 q2 q3) (u := divR false X Y) (v := divR true X Y) fun l h e => div_pt v1 v2 e X0 X1 Y0 Y1
        have sS := fun w => sDiv_any q0 q1 q2 q3 w
        have dS := fun w => divDown_any X Y w
        have uS := fun w => divUp_any X Y w
        have hI := holdsOf (r := sScaleR q0 q1 n m) (u := scaleR false X n m) (v := scaleR true X n m) fun l h e => scale_pt v1 e X0 X1
        have sI := fun w => sScale_any q0 q1 n m w m0 m1
        have dI := fun w => scaleDown_any X n m w m0 m1
        have uI := fun w => scaleUp_any X n m w m0 m1
        have hG := holdsOf (r := sSqrtR q0 q1) (u := sqrtR false X) (v := sqrtR true X) fun l h e => sqrt_pt v1 e X0 X1
        have sG := fun w => sSqrt_any q0 q1 w
        have dG := fun w => sqrtDown_any X w
        have uG := fun w => sqrtUp_any X w
        have hK := holdsOf (r := sSqrR q0 q1) (u := mulR false X X) (v := mulR true X X) fun l h e => sqr_pt v1 e X0 X1
        have sK := fun w => sSqr_any q0 q1 w
        have dK := fun w => mulDown_any X X w
        have uK := fun w => mulUp_any X X w
        generalize sMulR q0 q1 q2 q3 = M at *
        obtain ⟨Ma, Mb, Mc⟩ := M
        generalize mulR false X Y = Md at *
        obtain ⟨Mda, Mdb⟩ := Md
        generalize mulR true X Y = Mu at *
        obtain ⟨Mua, Mub⟩ := Mu
        generalize sDivR q0 q1 q2 q3 = S at *
        obtain ⟨Sa, Sb, Sc⟩ := S
        generalize divR false X Y = Sd at *
        obtain ⟨Sda, Sdb⟩ := Sd
        generalize divR true X Y = Su at *
        obtain ⟨Sua, Sub⟩ := Su
        generalize sScaleR q0 q1 n m = I at *
        obtain ⟨Ia, Ib, Ic⟩ := I
        generalize scaleR false X n m = Id at *
        obtain ⟨Ida, Idb⟩ := Id
        generalize scaleR true X n m = Iu at *
        obtain ⟨Iua, Iub⟩ := Iu
        generalize sSqrtR q0 q1 = G at *
        obtain ⟨Ga, Gb, Gc⟩ := G
        generalize sqrtR false X = Gd at *
        obtain ⟨Gda, Gdb⟩ := Gd
        generalize sqrtR true X = Gu at *
        obtain ⟨Gua, Gub⟩ := Gu
        generalize sSqrR q0 q1 = K at *
        obtain ⟨Ka, Kb, Kc⟩ := K
        generalize mulR false X X = Kd at *
        obtain ⟨Kda, Kdb⟩ := Kd
        generalize mulR true X X = Ku at *
        obtain ⟨Kua, Kub⟩ := Ku
        simp only [] at hM sM dM uM hS sS dS uS hI sI dI uI hG sG dG uG hK sK dK uK
        have tM := fun w => holds_true Ma Mb Mc Mda Mdb Mua Mub w hM
        have tS := fun w => holds_true Sa Sb Sc Sda Sdb Sua Sub w hS
        have tI := fun w => holds_true Ia Ib Ic Ida Idb Iua Iub w hI
        have tG := fun w => holds_true Ga Gb Gc Gda Gdb Gua Gub w hG
        have tK := fun w => holds_true Ka Kb Kc Kda Kdb Kua Kub w hK
        clear hM hS hI hG hK v1 v2
        have X2 : -4503599627370496 ≤ X := by omega
        have X3 : X ≤ 4503599627370496 := by omega
        have Y2 : -4503599627370496 ≤ Y := by omega
        have Y3 : Y ≤ 4503599627370496 := by omega
        clear X0 X1 Y0 Y1 a0 a1 a2 b0 b1 b2
        go_wp2_with fail
        go_region_held3 (fun w' => w'.cell? ⟨p, 0, none⟩ = some (.int .i64 q0) ∧ w'.cell? ⟨p, 1, none⟩ = some (.int .i64 q1) ∧ w'.cell? ⟨q, 0, none⟩ = some (.int .i64 q2) ∧ w'.cell? ⟨q, 1, none⟩ = some (.int .i64 q3) ∧ w'.cell? ⟨w.heap.size + 1, 0, none⟩ = some (.int .u64 V) ∧ w'.cell? ⟨w.heap.size + 1, 1, none⟩ = some (.int .u64 W))
          ((first | exact ⟨OA.1, OA.2.1, OD.1, OD.2.1, OV.1, OV.2.1⟩))
          (first | (go_at_call 48; (with_reducible refine (fA _).mono ?_); rintro e uz ⟨rfl, hb⟩; (with_reducible (first | (replace hb := undrew hb) | skip)); replace OA := ownKeep hb OA; replace OD := ownKeep hb OD; replace OV := ownKeep hb OV; replace hB := hB.step hb; replace hP := PrsAt.keep hb hP; clear hb) | (go_at_call 48; (with_reducible refine (fD _).mono ?_); rintro e uz ⟨rfl, hb⟩; (with_reducible (first | (replace hb := undrew hb) | skip)); replace OA := ownKeep hb OA; replace OD := ownKeep hb OD; replace OV := ownKeep hb OV; replace hB := hB.step hb; replace hP := PrsAt.keep hb hP; clear hb))
        clear fA fD
        have A0 := OA.1
        have A1 := OA.2.1
        have D0 := OD.1
        have D1 := OD.2.1
        have lA := OA.2.2.2.2
        have lD := OD.2.2.2.2
        go_wp2_with fail
        clear lA lD
        go_at_call 24
        refine (f1 _).mono ?_
        rintro e u1 ⟨rfl, hb1⟩
        (with_reducible (first | (replace hb1 := undrew hb1) | skip))
        clear f1
        replace OA := ownKeep hb1 OA
        replace OD := ownKeep hb1 OD
        replace OV := ownKeep hb1 OV
        replace hB := hB.step hb1
        replace hP := PrsAt.keep hb1 hP
        clear A0 A1 D0 D1
        have A0 := OA.1
        have A1 := OA.2.1
        have D0 := OD.1
        have D1 := OD.2.1
        clear hb1
        clear A0 A1 D0 D1
        have N_B_S := Lib.hid (Nat.ne_of_lt (World.block_lt_of_cell? u1 _ (hP 0 (by omega)).1))
        have N_A_S := Lib.hid (Nat.ne_of_lt OA.2.2.2.2)
        have N_D_S := Lib.hid (Nat.ne_of_lt OD.2.2.2.2)
        have N_V_S := Lib.hid (Nat.ne_of_lt OV.2.2.2.2)
        have L_S := Lib.hid hB.out.size
        rcases hs.out with hs1 | ⟨rfl, hs1, hs2⟩
        · have z1 : (se == 0) = false := by simpa using hs1
          have z2 : True := trivial
          have z3 : True := trivial
          clear hs hs1
          have A0 := OA.1
          have A1 := OA.2.1
          have D0 := OD.1
          have D1 := OD.2.1
          have lA := OA.2.2.2.2
          have lD := OD.2.2.2.2
          go_wp2_with fail
          clear lA lD
          go_at_call 49
          refine (sM _).mono ?_
          rintro e u2 ⟨rfl, hb2⟩
          (with_reducible (first | (replace hb2 := undrew hb2) | skip))
          clear sM
          replace OA := ownKeep hb2 (ownAlloc OA)
          replace OD := ownKeep hb2 (ownAlloc OD)
          replace OV := ownKeep hb2 (ownAlloc OV)
          replace hB := sinceA hB hb2
          replace hP := PrsAt.keep hb2 (PrsAt.alloc hP)
          have OS := ownNew hb2
          clear A0 A1 D0 D1
          have A0 := OA.1
          have A1 := OA.2.1
          have D0 := OD.1
          have D1 := OD.2.1
          clear hb2
          clear A0 A1 D0 D1
          clear z1 z2 z3
          have S0 := OS.1
          have S1 := OS.2.1
          have Sf0 := OS.2.2.1
          have Sf1 := OS.2.2.2.1
          go_wp2_with fail
          clear S0 S1 Sf0 Sf1
          go_at_call 50
          refine (dM _).mono ?_
          rintro e u3 ⟨rfl, hb3⟩
          (with_reducible (first | (replace hb3 := undrew hb3) | skip))
          clear dM
          replace OA := ownKeep hb3 (Own.far_set2 OA N_A_S.out)
          replace OD := ownKeep hb3 (Own.far_set2 OD N_D_S.out)
          replace OV := ownKeep hb3 (Own.far_set2 OV N_V_S.out)
          replace OS := ownKeep hb3 (Own.of_set2 OS)
          replace hB := (Since.set2 hB L_S.out).step hb3
          replace hP := PrsAt.keep hb3 (PrsAt.set2 hP N_B_S.out)
          clear hb3
          go_wp2_with fail
          go_at_call 51
          refine (uM _).mono ?_
          rintro e u4 ⟨rfl, hb4⟩
          (with_reducible (first | (replace hb4 := undrew hb4) | skip))
          clear uM
          replace OA := ownKeep hb4 OA
          replace OD := ownKeep hb4 OD
          replace OV := ownKeep hb4 OV
          replace OS := ownKeep hb4 OS
          replace hB := hB.step hb4
          replace hP := PrsAt.keep hb4 hP
          clear hb4
          have S0 := OS.1
          have S1 := OS.2.1
          have lS := OS.2.2.2.2
          go_wp2_with fail
          clear lS
          go_at_call 52
          refine (tM _).mono ?_
          rintro e u5 ⟨rfl, hb5⟩
          (with_reducible (first | (replace hb5 := undrew hb5) | skip))
          clear tM
          replace OA := ownKeep hb5 OA
          replace OD := ownKeep hb5 OD
          replace OV := ownKeep hb5 OV
          replace OS := ownKeep hb5 OS
          replace hB := hB.step hb5
          replace hP := PrsAt.keep hb5 hP
          clear S0 S1
          have S0 := OS.1
          have S1 := OS.2.1
          clear hb5
          clear S0 S1
          have A0 := OA.1
          have A1 := OA.2.1
          have D0 := OD.1
          have D1 := OD.2.1
          have lA := OA.2.2.2.2
          have lD := OD.2.2.2.2
          go_wp2_with fail
          clear lA lD
          go_at_call 53
          refine (sS _).mono ?_
          rintro e u6 ⟨rfl, hb6⟩
          (with_reducible (first | (replace hb6 := undrew hb6) | skip))
          clear sS
          replace OA := ownKeep hb6 OA
          replace OD := ownKeep hb6 OD
          replace OV := ownKeep hb6 OV
          replace OS := ownKeep hb6 OS
          replace hB := hB.step hb6
          replace hP := PrsAt.keep hb6 hP
          clear A0 A1 D0 D1
          have A0 := OA.1
          have A1 := OA.2.1
          have D0 := OD.1
          have D1 := OD.2.1
          clear hb6
          clear A0 A1 D0 D1
          have S0 := OS.1
          have S1 := OS.2.1
          have Sf0 := OS.2.2.1
          have Sf1 := OS.2.2.2.1
          go_wp2_with fail
          clear S0 S1 Sf0 Sf1
          go_at_call 54
          refine (dS _).mono ?_
          rintro e u7 ⟨rfl, hb7⟩
          (with_reducible (first | (replace hb7 := undrew hb7) | skip))
          clear dS
          replace OA := ownKeep hb7 (Own.far_set2 OA N_A_S.out)
          replace OD := ownKeep hb7 (Own.far_set2 OD N_D_S.out)
          replace OV := ownKeep hb7 (Own.far_set2 OV N_V_S.out)
          replace OS := ownKeep hb7 (Own.of_set2 OS)
          replace hB := (Since.set2 hB L_S.out).step hb7
          replace hP := PrsAt.keep hb7 (PrsAt.set2 hP N_B_S.out)
          clear hb7
          go_wp2_with fail
          go_at_call 55
          refine (uS _).mono ?_
          rintro e u8 ⟨rfl, hb8⟩
          (with_reducible (first | (replace hb8 := undrew hb8) | skip))
          clear uS
          replace OA := ownKeep hb8 OA
          replace OD := ownKeep hb8 OD
          replace OV := ownKeep hb8 OV
          replace OS := ownKeep hb8 OS
          replace hB := hB.step hb8
          replace hP := PrsAt.keep hb8 hP
          clear hb8
          have S0 := OS.1
          have S1 := OS.2.1
          have lS := OS.2.2.2.2
          go_wp2_with fail
          clear lS
          go_at_call 52
          refine (tS _).mono ?_
          rintro e u9 ⟨rfl, hb9⟩
          (with_reducible (first | (replace hb9 := undrew hb9) | skip))
          clear tS
          replace OA := ownKeep hb9 OA
          replace OD := ownKeep hb9 OD
          replace OV := ownKeep hb9 OV
          replace OS := ownKeep hb9 OS
          replace hB := hB.step hb9
          replace hP := PrsAt.keep hb9 hP
          clear S0 S1
          have S0 := OS.1
          have S1 := OS.2.1
          clear hb9
          clear S0 S1
          have A0 := OA.1
          have A1 := OA.2.1
          have lA := OA.2.2.2.2
          go_wp2_with fail
          clear lA
          go_at_call 56
          refine (sI _).mono ?_
          rintro e u10 ⟨rfl, hb10⟩
          (with_reducible (first | (replace hb10 := undrew hb10) | skip))
          clear sI
          replace OA := ownKeep hb10 OA
          replace OD := ownKeep hb10 OD
          replace OV := ownKeep hb10 OV
          replace OS := ownKeep hb10 OS
          replace hB := hB.step hb10
          replace hP := PrsAt.keep hb10 hP
          clear A0 A1
          have A0 := OA.1
          have A1 := OA.2.1
          clear hb10
          clear A0 A1
          have S0 := OS.1
          have S1 := OS.2.1
          have Sf0 := OS.2.2.1
          have Sf1 := OS.2.2.2.1
          go_wp2_with fail
          clear S0 S1 Sf0 Sf1
          go_at_call 57
          refine (dI _).mono ?_
          rintro e u11 ⟨rfl, hb11⟩
          (with_reducible (first | (replace hb11 := undrew hb11) | skip))
          clear dI
          replace OA := ownKeep hb11 (Own.far_set2 OA N_A_S.out)
          replace OD := ownKeep hb11 (Own.far_set2 OD N_D_S.out)
          replace OV := ownKeep hb11 (Own.far_set2 OV N_V_S.out)
          replace OS := ownKeep hb11 (Own.of_set2 OS)
          replace hB := (Since.set2 hB L_S.out).step hb11
          replace hP := PrsAt.keep hb11 (PrsAt.set2 hP N_B_S.out)
          clear hb11
          go_wp2_with fail
          go_at_call 58
          refine (uI _).mono ?_
          rintro e u12 ⟨rfl, hb12⟩
          (with_reducible (first | (replace hb12 := undrew hb12) | skip))
          clear uI
          replace OA := ownKeep hb12 OA
          replace OD := ownKeep hb12 OD
          replace OV := ownKeep hb12 OV
          replace OS := ownKeep hb12 OS
          replace hB := hB.step hb12
          replace hP := PrsAt.keep hb12 hP
          clear hb12
          have S0 := OS.1
          have S1 := OS.2.1
          have lS := OS.2.2.2.2
          go_wp2_with fail
          clear lS
          go_at_call 52
          refine (tI _).mono ?_
          rintro e u13 ⟨rfl, hb13⟩
          (with_reducible (first | (replace hb13 := undrew hb13) | skip))
          clear tI
          replace OA := ownKeep hb13 OA
          replace OD := ownKeep hb13 OD
          replace OV := ownKeep hb13 OV
          replace OS := ownKeep hb13 OS
          replace hB := hB.step hb13
          replace hP := PrsAt.keep hb13 hP
          clear S0 S1
          have S0 := OS.1
          have S1 := OS.2.1
          clear hb13
          clear S0 S1
          have A0 := OA.1
          have A1 := OA.2.1
          have lA := OA.2.2.2.2
          go_wp2_with fail
          clear lA
          go_at_call 59
          refine (sG _).mono ?_
          rintro e u14 ⟨rfl, hb14⟩
          (with_reducible (first | (replace hb14 := undrew hb14) | skip))
          clear sG
          replace OA := ownKeep hb14 OA
          replace OD := ownKeep hb14 OD
          replace OV := ownKeep hb14 OV
          replace OS := ownKeep hb14 OS
          replace hB := hB.step hb14
          replace hP := PrsAt.keep hb14 hP
          clear A0 A1
          have A0 := OA.1
          have A1 := OA.2.1
          clear hb14
          clear A0 A1
          have S0 := OS.1
          have S1 := OS.2.1
          have Sf0 := OS.2.2.1
          have Sf1 := OS.2.2.2.1
          go_wp2_with fail
          clear S0 S1 Sf0 Sf1
          go_at_call 60
          refine (dG _).mono ?_
          rintro e u15 ⟨rfl, hb15⟩
          (with_reducible (first | (replace hb15 := undrew hb15) | skip))
          clear dG
          replace OA := ownKeep hb15 (Own.far_set2 OA N_A_S.out)
          replace OD := ownKeep hb15 (Own.far_set2 OD N_D_S.out)
          replace OV := ownKeep hb15 (Own.far_set2 OV N_V_S.out)
          replace OS := ownKeep hb15 (Own.of_set2 OS)
          replace hB := (Since.set2 hB L_S.out).step hb15
          replace hP := PrsAt.keep hb15 (PrsAt.set2 hP N_B_S.out)
          clear hb15
          go_wp2_with fail
          go_at_call 61
          refine (uG _).mono ?_
          rintro e u16 ⟨rfl, hb16⟩
          (with_reducible (first | (replace hb16 := undrew hb16) | skip))
          clear uG
          replace OA := ownKeep hb16 OA
          replace OD := ownKeep hb16 OD
          replace OV := ownKeep hb16 OV
          replace OS := ownKeep hb16 OS
          replace hB := hB.step hb16
          replace hP := PrsAt.keep hb16 hP
          clear hb16
          have S0 := OS.1
          have S1 := OS.2.1
          have lS := OS.2.2.2.2
          go_wp2_with fail
          clear lS
          go_at_call 52
          refine (tG _).mono ?_
          rintro e u17 ⟨rfl, hb17⟩
          (with_reducible (first | (replace hb17 := undrew hb17) | skip))
          clear tG
          replace OA := ownKeep hb17 OA
          replace OD := ownKeep hb17 OD
          replace OV := ownKeep hb17 OV
          replace OS := ownKeep hb17 OS
          replace hB := hB.step hb17
          replace hP := PrsAt.keep hb17 hP
          clear S0 S1
          have S0 := OS.1
          have S1 := OS.2.1
          clear hb17
          clear S0 S1
          have A0 := OA.1
          have A1 := OA.2.1
          have lA := OA.2.2.2.2
          go_wp2_with fail
          clear lA
          go_at_call 62
          refine (sK _).mono ?_
          rintro e u18 ⟨rfl, hb18⟩
          (with_reducible (first | (replace hb18 := undrew hb18) | skip))
          clear sK
          replace OA := ownKeep hb18 OA
          replace OD := ownKeep hb18 OD
          replace OV := ownKeep hb18 OV
          replace OS := ownKeep hb18 OS
          replace hB := hB.step hb18
          replace hP := PrsAt.keep hb18 hP
          clear A0 A1
          have A0 := OA.1
          have A1 := OA.2.1
          clear hb18
          clear A0 A1
          have S0 := OS.1
          have S1 := OS.2.1
          have Sf0 := OS.2.2.1
          have Sf1 := OS.2.2.2.1
          go_wp2_with fail
          clear S0 S1 Sf0 Sf1
          go_at_call 50
          refine (dK _).mono ?_
          rintro e u19 ⟨rfl, hb19⟩
          (with_reducible (first | (replace hb19 := undrew hb19) | skip))
          clear dK
          replace OA := ownKeep hb19 (Own.far_set2 OA N_A_S.out)
          replace OD := ownKeep hb19 (Own.far_set2 OD N_D_S.out)
          replace OV := ownKeep hb19 (Own.far_set2 OV N_V_S.out)
          replace OS := ownKeep hb19 (Own.of_set2 OS)
          replace hB := (Since.set2 hB L_S.out).step hb19
          replace hP := PrsAt.keep hb19 (PrsAt.set2 hP N_B_S.out)
          clear hb19
          go_wp2_with fail
          go_at_call 51
          refine (uK _).mono ?_
          rintro e u20 ⟨rfl, hb20⟩
          (with_reducible (first | (replace hb20 := undrew hb20) | skip))
          clear uK
          replace OA := ownKeep hb20 OA
          replace OD := ownKeep hb20 OD
          replace OV := ownKeep hb20 OV
          replace OS := ownKeep hb20 OS
          replace hB := hB.step hb20
          replace hP := PrsAt.keep hb20 hP
          clear hb20
          have S0 := OS.1
          have S1 := OS.2.1
          have lS := OS.2.2.2.2
          go_wp2_with fail
          clear lS
          go_at_call 52
          refine (tK _).mono ?_
          rintro e u21 ⟨rfl, hb21⟩
          (with_reducible (first | (replace hb21 := undrew hb21) | skip))
          clear tK
          replace OA := ownKeep hb21 OA
          replace OD := ownKeep hb21 OD
          replace OV := ownKeep hb21 OV
          replace OS := ownKeep hb21 OS
          replace hB := hB.step hb21
          replace hP := PrsAt.keep hb21 hP
          clear S0 S1
          have S0 := OS.1
          have S1 := OS.2.1
          clear hb21
          clear S0 S1
          go_wp2_with fail
          go_roundw
          case rel => exact ⟨k + 1, by omega, by omega, by go_num, hB, hP, OV⟩
          case measure => simp [intOf]; omega
        · have z1 : decide (X + Y < sa) = false := by simpa using hs1
          have z2 : decide (sb < X + Y) = false := by simpa using hs2
          have z3 : True := trivial
          clear hs hs1 hs2
          have A0 := OA.1
          have A1 := OA.2.1
          have D0 := OD.1
          have D1 := OD.2.1
          have lA := OA.2.2.2.2
          have lD := OD.2.2.2.2
          go_wp2_with fail
          clear lA lD
          go_at_call 49
          refine (sM _).mono ?_
          rintro e u2 ⟨rfl, hb2⟩
          (with_reducible (first | (replace hb2 := undrew hb2) | skip))
          clear sM
          replace OA := ownKeep hb2 (ownAlloc OA)
          replace OD := ownKeep hb2 (ownAlloc OD)
          replace OV := ownKeep hb2 (ownAlloc OV)
          replace hB := sinceA hB hb2
          replace hP := PrsAt.keep hb2 (PrsAt.alloc hP)
          have OS := ownNew hb2
          clear A0 A1 D0 D1
          have A0 := OA.1
          have A1 := OA.2.1
          have D0 := OD.1
          have D1 := OD.2.1
          clear hb2
          clear A0 A1 D0 D1
          clear z1 z2 z3
          have S0 := OS.1
          have S1 := OS.2.1
          have Sf0 := OS.2.2.1
          have Sf1 := OS.2.2.2.1
          go_wp2_with fail
          clear S0 S1 Sf0 Sf1
          go_at_call 50
          refine (dM _).mono ?_
          rintro e u3 ⟨rfl, hb3⟩
          (with_reducible (first | (replace hb3 := undrew hb3) | skip))
          clear dM
          replace OA := ownKeep hb3 (Own.far_set2 OA N_A_S.out)
          replace OD := ownKeep hb3 (Own.far_set2 OD N_D_S.out)
          replace OV := ownKeep hb3 (Own.far_set2 OV N_V_S.out)
          replace OS := ownKeep hb3 (Own.of_set2 OS)
          replace hB := (Since.set2 hB L_S.out).step hb3
          replace hP := PrsAt.keep hb3 (PrsAt.set2 hP N_B_S.out)
          clear hb3
          go_wp2_with fail
          go_at_call 51
          refine (uM _).mono ?_
          rintro e u4 ⟨rfl, hb4⟩
          (with_reducible (first | (replace hb4 := undrew hb4) | skip))
          clear uM
          replace OA := ownKeep hb4 OA
          replace OD := ownKeep hb4 OD
          replace OV := ownKeep hb4 OV
          replace OS := ownKeep hb4 OS
          replace hB := hB.step hb4
          replace hP := PrsAt.keep hb4 hP
          clear hb4
          have S0 := OS.1
          have S1 := OS.2.1
          have lS := OS.2.2.2.2
          go_wp2_with fail
          clear lS
          go_at_call 52
          refine (tM _).mono ?_
          rintro e u5 ⟨rfl, hb5⟩
          (with_reducible (first | (replace hb5 := undrew hb5) | skip))
          clear tM
          replace OA := ownKeep hb5 OA
          replace OD := ownKeep hb5 OD
          replace OV := ownKeep hb5 OV
          replace OS := ownKeep hb5 OS
          replace hB := hB.step hb5
          replace hP := PrsAt.keep hb5 hP
          clear S0 S1
          have S0 := OS.1
          have S1 := OS.2.1
          clear hb5
          clear S0 S1
          have A0 := OA.1
          have A1 := OA.2.1
          have D0 := OD.1
          have D1 := OD.2.1
          have lA := OA.2.2.2.2
          have lD := OD.2.2.2.2
          go_wp2_with fail
          clear lA lD
          go_at_call 53
          refine (sS _).mono ?_
          rintro e u6 ⟨rfl, hb6⟩
          (with_reducible (first | (replace hb6 := undrew hb6) | skip))
          clear sS
          replace OA := ownKeep hb6 OA
          replace OD := ownKeep hb6 OD
          replace OV := ownKeep hb6 OV
          replace OS := ownKeep hb6 OS
          replace hB := hB.step hb6
          replace hP := PrsAt.keep hb6 hP
          clear A0 A1 D0 D1
          have A0 := OA.1
          have A1 := OA.2.1
          have D0 := OD.1
          have D1 := OD.2.1
          clear hb6
          clear A0 A1 D0 D1
          have S0 := OS.1
          have S1 := OS.2.1
          have Sf0 := OS.2.2.1
          have Sf1 := OS.2.2.2.1
          go_wp2_with fail
          clear S0 S1 Sf0 Sf1
          go_at_call 54
          refine (dS _).mono ?_
          rintro e u7 ⟨rfl, hb7⟩
          (with_reducible (first | (replace hb7 := undrew hb7) | skip))
          clear dS
          replace OA := ownKeep hb7 (Own.far_set2 OA N_A_S.out)
          replace OD := ownKeep hb7 (Own.far_set2 OD N_D_S.out)
          replace OV := ownKeep hb7 (Own.far_set2 OV N_V_S.out)
          replace OS := ownKeep hb7 (Own.of_set2 OS)
          replace hB := (Since.set2 hB L_S.out).step hb7
          replace hP := PrsAt.keep hb7 (PrsAt.set2 hP N_B_S.out)
          clear hb7
          go_wp2_with fail
          go_at_call 55
          refine (uS _).mono ?_
          rintro e u8 ⟨rfl, hb8⟩
          (with_reducible (first | (replace hb8 := undrew hb8) | skip))
          clear uS
          replace OA := ownKeep hb8 OA
          replace OD := ownKeep hb8 OD
          replace OV := ownKeep hb8 OV
          replace OS := ownKeep hb8 OS
          replace hB := hB.step hb8
          replace hP := PrsAt.keep hb8 hP
          clear hb8
          have S0 := OS.1
          have S1 := OS.2.1
          have lS := OS.2.2.2.2
          go_wp2_with fail
          clear lS
          go_at_call 52
          refine (tS _).mono ?_
          rintro e u9 ⟨rfl, hb9⟩
          (with_reducible (first | (replace hb9 := undrew hb9) | skip))
          clear tS
          replace OA := ownKeep hb9 OA
          replace OD := ownKeep hb9 OD
          replace OV := ownKeep hb9 OV
          replace OS := ownKeep hb9 OS
          replace hB := hB.step hb9
          replace hP := PrsAt.keep hb9 hP
          clear S0 S1
          have S0 := OS.1
          have S1 := OS.2.1
          clear hb9
          clear S0 S1
          have A0 := OA.1
          have A1 := OA.2.1
          have lA := OA.2.2.2.2
          go_wp2_with fail
          clear lA
          go_at_call 56
          refine (sI _).mono ?_
          rintro e u10 ⟨rfl, hb10⟩
          (with_reducible (first | (replace hb10 := undrew hb10) | skip))
          clear sI
          replace OA := ownKeep hb10 OA
          replace OD := ownKeep hb10 OD
          replace OV := ownKeep hb10 OV
          replace OS := ownKeep hb10 OS
          replace hB := hB.step hb10
          replace hP := PrsAt.keep hb10 hP
          clear A0 A1
          have A0 := OA.1
          have A1 := OA.2.1
          clear hb10
          clear A0 A1
          have S0 := OS.1
          have S1 := OS.2.1
          have Sf0 := OS.2.2.1
          have Sf1 := OS.2.2.2.1
          go_wp2_with fail
          clear S0 S1 Sf0 Sf1
          go_at_call 57
          refine (dI _).mono ?_
          rintro e u11 ⟨rfl, hb11⟩
          (with_reducible (first | (replace hb11 := undrew hb11) | skip))
          clear dI
          replace OA := ownKeep hb11 (Own.far_set2 OA N_A_S.out)
          replace OD := ownKeep hb11 (Own.far_set2 OD N_D_S.out)
          replace OV := ownKeep hb11 (Own.far_set2 OV N_V_S.out)
          replace OS := ownKeep hb11 (Own.of_set2 OS)
          replace hB := (Since.set2 hB L_S.out).step hb11
          replace hP := PrsAt.keep hb11 (PrsAt.set2 hP N_B_S.out)
          clear hb11
          go_wp2_with fail
          go_at_call 58
          refine (uI _).mono ?_
          rintro e u12 ⟨rfl, hb12⟩
          (with_reducible (first | (replace hb12 := undrew hb12) | skip))
          clear uI
          replace OA := ownKeep hb12 OA
          replace OD := ownKeep hb12 OD
          replace OV := ownKeep hb12 OV
          replace OS := ownKeep hb12 OS
          replace hB := hB.step hb12
          replace hP := PrsAt.keep hb12 hP
          clear hb12
          have S0 := OS.1
          have S1 := OS.2.1
          have lS := OS.2.2.2.2
          go_wp2_with fail
          clear lS
          go_at_call 52
          refine (tI _).mono ?_
          rintro e u13 ⟨rfl, hb13⟩
          (with_reducible (first | (replace hb13 := undrew hb13) | skip))
          clear tI
          replace OA := ownKeep hb13 OA
          replace OD := ownKeep hb13 OD
          replace OV := ownKeep hb13 OV
          replace OS := ownKeep hb13 OS
          replace hB := hB.step hb13
          replace hP := PrsAt.keep hb13 hP
          clear S0 S1
          have S0 := OS.1
          have S1 := OS.2.1
          clear hb13
          clear S0 S1
          have A0 := OA.1
          have A1 := OA.2.1
          have lA := OA.2.2.2.2
          go_wp2_with fail
          clear lA
          go_at_call 59
          refine (sG _).mono ?_
          rintro e u14 ⟨rfl, hb14⟩
          (with_reducible (first | (replace hb14 := undrew hb14) | skip))
          clear sG
          replace OA := ownKeep hb14 OA
          replace OD := ownKeep hb14 OD
          replace OV := ownKeep hb14 OV
          replace OS := ownKeep hb14 OS
          replace hB := hB.step hb14
          replace hP := PrsAt.keep hb14 hP
          clear A0 A1
          have A0 := OA.1
          have A1 := OA.2.1
          clear hb14
          clear A0 A1
          have S0 := OS.1
          have S1 := OS.2.1
          have Sf0 := OS.2.2.1
          have Sf1 := OS.2.2.2.1
          go_wp2_with fail
          clear S0 S1 Sf0 Sf1
          go_at_call 60
          refine (dG _).mono ?_
          rintro e u15 ⟨rfl, hb15⟩
          (with_reducible (first | (replace hb15 := undrew hb15) | skip))
          clear dG
          replace OA := ownKeep hb15 (Own.far_set2 OA N_A_S.out)
          replace OD := ownKeep hb15 (Own.far_set2 OD N_D_S.out)
          replace OV := ownKeep hb15 (Own.far_set2 OV N_V_S.out)
          replace OS := ownKeep hb15 (Own.of_set2 OS)
          replace hB := (Since.set2 hB L_S.out).step hb15
          replace hP := PrsAt.keep hb15 (PrsAt.set2 hP N_B_S.out)
          clear hb15
          go_wp2_with fail
          go_at_call 61
          refine (uG _).mono ?_
          rintro e u16 ⟨rfl, hb16⟩
          (with_reducible (first | (replace hb16 := undrew hb16) | skip))
          clear uG
          replace OA := ownKeep hb16 OA
          replace OD := ownKeep hb16 OD
          replace OV := ownKeep hb16 OV
          replace OS := ownKeep hb16 OS
          replace hB := hB.step hb16
          replace hP := PrsAt.keep hb16 hP
          clear hb16
          have S0 := OS.1
          have S1 := OS.2.1
          have lS := OS.2.2.2.2
          go_wp2_with fail
          clear lS
          go_at_call 52
          refine (tG _).mono ?_
          rintro e u17 ⟨rfl, hb17⟩
          (with_reducible (first | (replace hb17 := undrew hb17) | skip))
          clear tG
          replace OA := ownKeep hb17 OA
          replace OD := ownKeep hb17 OD
          replace OV := ownKeep hb17 OV
          replace OS := ownKeep hb17 OS
          replace hB := hB.step hb17
          replace hP := PrsAt.keep hb17 hP
          clear S0 S1
          have S0 := OS.1
          have S1 := OS.2.1
          clear hb17
          clear S0 S1
          have A0 := OA.1
          have A1 := OA.2.1
          have lA := OA.2.2.2.2
          go_wp2_with fail
          clear lA
          go_at_call 62
          refine (sK _).mono ?_
          rintro e u18 ⟨rfl, hb18⟩
          (with_reducible (first | (replace hb18 := undrew hb18) | skip))
          clear sK
          replace OA := ownKeep hb18 OA
          replace OD := ownKeep hb18 OD
          replace OV := ownKeep hb18 OV
          replace OS := ownKeep hb18 OS
          replace hB := hB.step hb18
          replace hP := PrsAt.keep hb18 hP
          clear A0 A1
          have A0 := OA.1
          have A1 := OA.2.1
          clear hb18
          clear A0 A1
          have S0 := OS.1
          have S1 := OS.2.1
          have Sf0 := OS.2.2.1
          have Sf1 := OS.2.2.2.1
          go_wp2_with fail
          clear S0 S1 Sf0 Sf1
          go_at_call 50
          refine (dK _).mono ?_
          rintro e u19 ⟨rfl, hb19⟩
          (with_reducible (first | (replace hb19 := undrew hb19) | skip))
          clear dK
          replace OA := ownKeep hb19 (Own.far_set2 OA N_A_S.out)
          replace OD := ownKeep hb19 (Own.far_set2 OD N_D_S.out)
          replace OV := ownKeep hb19 (Own.far_set2 OV N_V_S.out)
          replace OS := ownKeep hb19 (Own.of_set2 OS)
          replace hB := (Since.set2 hB L_S.out).step hb19
          replace hP := PrsAt.keep hb19 (PrsAt.set2 hP N_B_S.out)
          clear hb19
          go_wp2_with fail
          go_at_call 51
          refine (uK _).mono ?_
          rintro e u20 ⟨rfl, hb20⟩
          (with_reducible (first | (replace hb20 := undrew hb20) | skip))
          clear uK
          replace OA := ownKeep hb20 OA
          replace OD := ownKeep hb20 OD
          replace OV := ownKeep hb20 OV
          replace OS := ownKeep hb20 OS
          replace hB := hB.step hb20
          replace hP := PrsAt.keep hb20 hP
          clear hb20
          have S0 := OS.1
          have S1 := OS.2.1
          have lS := OS.2.2.2.2
          go_wp2_with fail
          clear lS
          go_at_call 52
          refine (tK _).mono ?_
          rintro e u21 ⟨rfl, hb21⟩
          (with_reducible (first | (replace hb21 := undrew hb21) | skip))
          clear tK
          replace OA := ownKeep hb21 OA
          replace OD := ownKeep hb21 OD
          replace OV := ownKeep hb21 OV
          replace OS := ownKeep hb21 OS
          replace hB := hB.step hb21
          replace hP := PrsAt.keep hb21 hP
          clear S0 S1
          have S0 := OS.1
          have S1 := OS.2.1
          clear hb21
          clear S0 S1
          go_wp2_with fail
          go_roundw
          case rel => exact ⟨k + 1, by omega, by omega, by go_num, hB, hP, OV⟩
          case measure => simp [intOf]; omega
    · clear hV
      go_wp2
      go_wp2
      go_ret
      exact ⟨rfl, hB.out⟩

end Go.Proofs.YtpfmhpmpjejdcaaDoor
