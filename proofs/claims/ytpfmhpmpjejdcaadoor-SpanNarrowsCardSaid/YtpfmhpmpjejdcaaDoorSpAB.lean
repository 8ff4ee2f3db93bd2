/-
  The walk of SpanParts.
-/
import Derived.Test.YtpfmhpmpjejdcaaDoorSpX
namespace Go.Proofs.YtpfmhpmpjejdcaaDoor
open Go.RowKit

theorem ckS_valid {l h : Int} (k : ckS l h = 0) : -4503599627370496 ≤ l ∧ l ≤ h ∧ h ≤ 4503599627370496 := by
  rcases ckS_cases l h with ⟨_, h0, h1, h2⟩ | ⟨e, _⟩
  · exact ⟨h0, h1, h2⟩
  · omega
theorem ck2S_valid {a b c d : Int} (k : ckS a b = 0) (k' : ckS c d = 0) : ck2S a b c d = 0 := by unfold ck2S; rw [if_pos k, k']
theorem has_ok {l h : Int} (k : ckS l h = 0) (n : Int) : sHasR l h n = (holdsB l h n, 0) := by unfold sHasR; rw [if_pos k]
theorem parts_meet {q0 q1 q2 q3 : Int} (v1 : ckS q0 q1 = 0) (v2 : ckS q2 q3 = 0) : ∃ ma mb mc ha hb, sMeetR q0 q1 q2 q3 = (ma, mb, mc) ∧ sHullR q0 q1 q2 q3 = (ha, hb, 0) ∧ (mc = 0 ∨ mc = 4) ∧
    ∀ n, ∃ x y bo an : Bool, sHasR q0 q1 n = (x, 0) ∧ sHasR q2 q3 n = (y, 0) ∧ sHasR ma mb n = (bo, 0) ∧ sHasR ha hb n = (an, 0) ∧ (mc = 0 → bo = (x && y)) ∧ (mc = 4 → (x && y) = false) ∧ ((x || y) = true → an = true) := by
  obtain ⟨a0, a1, a2⟩ := ckS_valid v1
  obtain ⟨b0, b1, b2⟩ := ckS_valid v2
  have kk := ck2S_valid v1 v2
  have kh : ckS (min q0 q2) (max q1 q3) = 0 := ckS_ok (by omega) (by omega) (by omega)
  have hh : sHullR q0 q1 q2 q3 = (min q0 q2, max q1 q3, 0) := by unfold sHullR; rw [if_pos kk]
  by_cases e : min q1 q3 < max q0 q2
  · refine ⟨0, 0, 4, min q0 q2, max q1 q3, by unfold sMeetR; rw [if_pos kk, if_pos e], hh, Or.inr rfl, fun n => ⟨holdsB q0 q1 n, holdsB q2 q3 n, holdsB 0 0 n, holdsB (min q0 q2) (max q1 q3) n, has_ok v1 n, has_ok v2 n, has_ok (by decide) n, has_ok kh n, fun h => by omega, fun _ => ?_, ?_⟩⟩
    · unfold holdsB; simp; omega
    · unfold holdsB; simp; omega
  · have km : ckS (max q0 q2) (min q1 q3) = 0 := ckS_ok (by omega) (by omega) (by omega)
    refine ⟨max q0 q2, min q1 q3, 0, min q0 q2, max q1 q3, by unfold sMeetR; rw [if_pos kk, if_neg e], hh, Or.inl rfl, fun n => ⟨holdsB q0 q1 n, holdsB q2 q3 n, holdsB (max q0 q2) (min q1 q3) n, holdsB (min q0 q2) (max q1 q3) n, has_ok v1 n, has_ok v2 n, has_ok km n, has_ok kh n, fun _ => ?_, fun h => by omega, ?_⟩⟩
    · unfold holdsB
      rw [Bool.eq_iff_iff]; simp; omega
    · unfold holdsB; simp; omega
theorem parts_mid {l h : Int} (k : ckS l h = 0) : ∃ m wd d r, sMidR l h = (m, 0) ∧ sWidthR l h = (wd, 0) ∧ m - l = d ∧ h - m = r ∧ wd.tdiv 2 = d ∧ wd - d = r ∧ -4503599627370496 ≤ m ∧ m ≤ 4503599627370496 ∧ 0 ≤ wd ∧ wd ≤ 9007199254740992 ∧ 0 ≤ d ∧ d ≤ 9007199254740992 ∧ 0 ≤ r ∧ r ≤ 9007199254740992 := by
  obtain ⟨a0, a1, a2⟩ := ckS_valid k
  have e : (h - l).tdiv 2 = (h - l) / 2 := Int.tdiv_eq_ediv_of_nonneg (by omega)
  refine ⟨(l + h) / 2, h - l, (h - l) / 2, h - (l + h) / 2, by unfold sMidR; rw [if_pos k], by unfold sWidthR; rw [if_pos k], ?_, rfl, e, ?_, ?_, ?_, ?_, ?_, ?_, ?_, ?_, ?_⟩ <;> omega
theorem parts_sign {l h : Int} (k : ckS l h = 0) : ∃ s t, sSignR l h = (s, 0) ∧ sNegR l h = (-h, -l, 0) ∧ sSignR (-h) (-l) = (t, 0) ∧ (s = 2 ∧ t = 2 ∨ s = -1 ∧ t = 1 ∨ s = 1 ∧ t = -1 ∨ s = 0 ∧ t = 0) := by
  obtain ⟨a0, a1, a2⟩ := ckS_valid k
  have k' : ckS (-h) (-l) = 0 := ckS_ok (by omega) (by omega) (by omega)
  refine ⟨(sSignR l h).1, (sSignR (-h) (-l)).1, ?_, by unfold sNegR; rw [if_pos k], ?_, ?_⟩
  · unfold sSignR; rw [if_pos k]; repeat' split
    all_goals rfl
  · unfold sSignR; rw [if_pos k']; repeat' split
    all_goals rfl
  · unfold sSignR; rw [if_pos k, if_pos k']
    by_cases c1 : h < 0
    · rw [if_pos c1, if_neg (by omega), if_pos (by omega)]; simp
    · by_cases c2 : 0 < l
      · rw [if_neg c1, if_pos c2, if_pos (by omega)]; simp
      · by_cases c3 : l = h
        · rw [if_neg c1, if_neg c2, if_pos c3, if_neg (by omega), if_neg (by omega), if_pos (by omega)]; simp
        · rw [if_neg c1, if_neg c2, if_neg c3, if_neg (by omega), if_neg (by omega), if_neg (by omega)]; simp
set_option maxRecDepth 100000 in
set_option maxHeartbeats 4000000 in
theorem spanParts_true (a b c d x y z x' y' z' v : Int) (w : World) (hT0 : Tens w) (y0 : 0 ≤ y) (y1 : y ≤ 255) (z0 : 0 ≤ z) (z1 : z ≤ 4294967295) (y0' : 0 ≤ y') (y1' : y' ≤ 255) (z0' : 0 ≤ z') (z1' : z' ≤ 4294967295) :
    Calls Tryd.prog 10 #[.agg #[.int .i64 a, .int .i64 b, .int .i64 c, .int .i64 d, .int .i64 x, .int .u8 y, .int .u32 z, .int .i64 x', .int .u8 y', .int .u32 z'], .int .i64 v] w fun e w' => e = .returned (.bool true) ∧ Below w.heap.size w w' := by
  have hpr := fun w => pairs_any a b c d x y z x' y' z' w y0 y1 z0 z1 y0' y1' z0' z1'
  clear y0 y1 z0 z1 y0' y1' z0' z1'
  go_enter Tryd.func10, Tryd.ntmps10
  go_wp2_with fail
  go_at_call 12
  refine (works_true _ (hT0.below (by (repeat (first | with_reducible exact Below.refl _ _ | with_reducible assumption | refine Below.alloc ?_ (by (try simp); try omega) _ | refine Below.setCell ?_ (by (try simp); try omega) _ | refine below_drewN ?_ _ | refine Below.drew ?_ | (with_reducible refine Below.trans ?_ (Below.mono (by assumption) (by (try simp); try omega)))))))).mono ?_
  rintro e w1 ⟨rfl, hb1⟩
  have c0 : w1.cell? ⟨w.heap.size, 0, none⟩ = some (.int .i64 a) := bkeep hb1 (by simp)
  have c1 : w1.cell? ⟨w.heap.size, 1, none⟩ = some (.int .i64 b) := bkeep hb1 (by simp)
  have c2 : w1.cell? ⟨w.heap.size, 2, none⟩ = some (.int .i64 c) := bkeep hb1 (by simp)
  have c3 : w1.cell? ⟨w.heap.size, 3, none⟩ = some (.int .i64 d) := bkeep hb1 (by simp)
  have c4 : w1.cell? ⟨w.heap.size, 4, none⟩ = some (.int .i64 x) := bkeep hb1 (by simp)
  have c5 : w1.cell? ⟨w.heap.size, 5, none⟩ = some (.int .u8 y) := bkeep hb1 (by simp)
  have c6 : w1.cell? ⟨w.heap.size, 6, none⟩ = some (.int .u32 z) := bkeep hb1 (by simp)
  have c7 : w1.cell? ⟨w.heap.size, 7, none⟩ = some (.int .i64 x') := bkeep hb1 (by simp)
  have c8 : w1.cell? ⟨w.heap.size, 8, none⟩ = some (.int .u8 y') := bkeep hb1 (by simp)
  have c9 : w1.cell? ⟨w.heap.size, 9, none⟩ = some (.int .u32 z') := bkeep hb1 (by simp)
  have hB : Since w w1 := sinceA (Since.refl w) hb1
  clear hb1
  go_wp2_with fail
  go_at_call 23
  refine (hpr _).mono ?_
  rintro e w2 ⟨B, f, rfl, hP, hV, hb2⟩
  (with_reducible (first | (replace hb2 := undrew hb2) | skip))
  replace hB := hB.step hb2
  clear hb2 hpr c0 c1 c2 c3 c4 c5 c6 c7 c8 c9
  go_wp2_with fail
  replace hV := Lib.hid hV
  go_loopw [37] (fun vi wr => ∃ k : Int, 0 ≤ k ∧ k ≤ 3 ∧ vi = .int .i64 k ∧ Since w wr ∧ PrsAt wr B f) (fun vi _ => 3 - (intOf vi).toNat)
  case atStart => exact ⟨0, by omega, by omega, rfl, hB, hP⟩
  case round =>
    clear hB hP
    obtain ⟨k, k0, k5, rfl, hB, hP⟩ := hrel
    by_cases hk : k < 3
    · obtain ⟨p0, p1, p2, p3⟩ := hP (k.toNat + 1) (by omega)
      obtain ⟨v1, v2⟩ := hV.out (k.toNat + 1) (by omega) (by omega)
      obtain ⟨q0, hq0⟩ : ∃ q, (f (k.toNat + 1)).1 = q := ⟨_, rfl⟩
      obtain ⟨q1, hq1⟩ : ∃ q, (f (k.toNat + 1)).2.1 = q := ⟨_, rfl⟩
      obtain ⟨q2, hq2⟩ : ∃ q, (f (k.toNat + 1)).2.2.1 = q := ⟨_, rfl⟩
      obtain ⟨q3, hq3⟩ : ∃ q, (f (k.toNat + 1)).2.2.2 = q := ⟨_, rfl⟩
      rw [hq0] at p0
      rw [hq1] at p1
      rw [hq2] at p2
      rw [hq3] at p3
      rw [hq0, hq1] at v1
      rw [hq2, hq3] at v2
      clear hq0 hq1 hq2 hq3
      rw [show 4 * (k.toNat + 1) = 4 + k.toNat * 4 by omega] at p0 p1 p2 p3
      obtain ⟨a0, a1, a2⟩ := ckS_valid v1
      obtain ⟨b0, b1, b2⟩ := ckS_valid v2
      go_upto_region 6 with fail
      go_cut [7, 8] from 38 to 216 (fun va vb wx => ∃ p q : Nat, va = .pointer (some ⟨p, 0, none⟩) ∧ vb = .pointer (some ⟨q, 0, none⟩) ∧ Own wx p (.int .i64 q0) (.int .i64 q1) ∧ Own wx q (.int .i64 q2) (.int .i64 q3) ∧ Since w wx ∧ PrsAt wx B f)
      case first =>
        clear p0 p1 p2 p3
        replace hB : Since w (wr.alloc (.cells #[.int .i64 q0, .int .i64 q1, .int .i64 q2, .int .i64 q3] 29)) := hB.alloc
        replace hP : PrsAt (wr.alloc (.cells #[.int .i64 q0, .int .i64 q1, .int .i64 q2, .int .i64 q3] 29)) B f := hP.alloc
        go_region
        all_goals (go_wp2_with fail; go_meet)
        all_goals exact ⟨_, _, rfl, rfl, Own.drew (by first | exact ownFst _ _ _ _ _ _ (by simp) | exact ownSnd _ _ _ _ _ (by simp)), Own.drew (by first | exact ownFst _ _ _ _ _ _ (by simp) | exact ownSnd _ _ _ _ _ (by simp)), (hB.alloc.alloc).drew, (hP.alloc.alloc).drew⟩
      case rest =>
        obtain ⟨p, q, rfl, rfl, OA, OD, hB, hP⟩ := hcut
        clear p0 p1 p2 p3
        obtain ⟨ma, mb, mc, ha, hb, em, eh, hmc, hall⟩ := parts_meet v1 v2
        obtain ⟨m, wd, d, r, ei, ej, r1, r2, r3, r4, m0, m1, wd0, wd1, d0, d1, r0', r1'⟩ := parts_mid v1
        obtain ⟨s, t, es, en, et, hst⟩ := parts_sign v1
        have f1 := fun w => sMeet_any q0 q1 q2 q3 w
        have f2 := fun w => sHull_any q0 q1 q2 q3 w
        simp only [em, eh] at f1 f2
        replace hall := Lib.hid hall
        have g1 := fun w => sMid_any q0 q1 w
        have g2 := fun w => sWidth_any q0 q1 w
        have g3 := fun w => sSign_any q0 q1 w
        have g4 := fun w => sNeg_any q0 q1 w
        have g5 := fun w => sSign_any (-q1) (-q0) w
        simp only [ei, ej, es, en, et] at g1 g2 g3 g4 g5
        replace hst := Lib.hid hst
        replace hmc := Lib.hid hmc
        replace r1 := Lib.hid r1
        replace r2 := Lib.hid r2
        replace r3 := Lib.hid r3
        replace r4 := Lib.hid r4
        clear em eh ei ej es en et
        have A0 := OA.1
        have A1 := OA.2.1
        have D0 := OD.1
        have D1 := OD.2.1
        go_wp2_with fail
        go_at_call 38
        refine (f1 _).mono ?_
        rintro e u1 ⟨rfl, hb1⟩
        (with_reducible (first | (replace hb1 := undrew hb1) | skip))
        clear f1
        replace OA := ownKeep hb1 OA
        replace OD := ownKeep hb1 OD
        replace hB := hB.step hb1
        replace hP := PrsAt.keep hb1 hP
        clear A0 A1 D0 D1
        have A0 := OA.1
        have A1 := OA.2.1
        have D0 := OD.1
        have D1 := OD.2.1
        clear hb1
        have N_B_M := Lib.hid (Nat.ne_of_lt (World.block_lt_of_cell? u1 _ (hP 0 (by omega)).1))
        have N_A_M := Lib.hid (Nat.ne_of_lt OA.2.2.2.2)
        have N_D_M := Lib.hid (Nat.ne_of_lt OD.2.2.2.2)
        have L_M := Lib.hid hB.out.size
        have lA := OA.2.2.2.2
        have lD := OD.2.2.2.2
        go_wp2_with fail
        clear lA lD
        go_at_call 36
        refine (f2 _).mono ?_
        rintro e u2 ⟨rfl, hb2⟩
        (with_reducible (first | (replace hb2 := undrew hb2) | skip))
        clear f2
        replace OA := ownKeep hb2 (ownAlloc OA)
        replace OD := ownKeep hb2 (ownAlloc OD)
        replace hB := sinceA hB hb2
        replace hP := PrsAt.keep hb2 (PrsAt.alloc hP)
        have OM := ownNew hb2
        clear A0 A1 D0 D1
        have A0 := OA.1
        have A1 := OA.2.1
        have D0 := OD.1
        have D1 := OD.2.1
        clear hb2
        have N_B_H := Lib.hid (Nat.ne_of_lt (World.block_lt_of_cell? u2 _ (hP 0 (by omega)).1))
        have N_A_H := Lib.hid (Nat.ne_of_lt OA.2.2.2.2)
        have N_D_H := Lib.hid (Nat.ne_of_lt OD.2.2.2.2)
        have N_M_H := Lib.hid (Nat.ne_of_lt OM.2.2.2.2)
        have L_H := Lib.hid hB.out.size
        replace OA : Own (u2.alloc (.cells #[.int .i64 ha, .int .i64 hb] 23)) _ _ _ := ownAlloc OA
        replace OD : Own (u2.alloc (.cells #[.int .i64 ha, .int .i64 hb] 23)) _ _ _ := ownAlloc OD
        replace OM : Own (u2.alloc (.cells #[.int .i64 ha, .int .i64 hb] 23)) _ _ _ := ownAlloc OM
        have OH := ownHere u2 (.int .i64 ha) (.int .i64 hb) 23
        replace hB : Since w (u2.alloc (.cells #[.int .i64 ha, .int .i64 hb] 23)) := hB.alloc
        replace hP : PrsAt (u2.alloc (.cells #[.int .i64 ha, .int .i64 hb] 23)) _ _ := hP.alloc
        clear A0 A1 D0 D1
        have A0 := OA.1
        have A1 := OA.2.1
        have D0 := OD.1
        have D1 := OD.2.1
        go_wp2_with fail
        clear A0 A1 D0 D1
        generalize q0 - 1 = q5
        have hidx : ∀ j : Int, 0 ≤ j → j < 6 → ∃ n : Int, ∀ w, (Instr.index 66 (.agg #[.int .i64 v, .int .i64 q0, .int .i64 q1, .int .i64 q2, .int .i64 q3, .int .i64 q5]) (.int .i64 j)).run Tryd.prog w = .ok (.int .i64 n) w := by
          intro j h0 h1
          obtain rfl | rfl | rfl | rfl | rfl | rfl : j = 0 ∨ j = 1 ∨ j = 2 ∨ j = 3 ∨ j = 4 ∨ j = 5 := by omega
          · exact ⟨v, fun _ => by kernel_rfl⟩
          · exact ⟨q0, fun _ => by kernel_rfl⟩
          · exact ⟨q1, fun _ => by kernel_rfl⟩
          · exact ⟨q2, fun _ => by kernel_rfl⟩
          · exact ⟨q3, fun _ => by kernel_rfl⟩
          · exact ⟨q5, fun _ => by kernel_rfl⟩
        replace hidx := Lib.hid hidx
        go_loopw [70] (fun vi wx => ∃ j : Int, 0 ≤ j ∧ j ≤ 6 ∧ vi = .int .i64 j ∧ Since w wx ∧ PrsAt wx B f ∧ Own wx p (.int .i64 q0) (.int .i64 q1) ∧ Own wx q (.int .i64 q2) (.int .i64 q3) ∧ Own wx u1.heap.size (.int .i64 ma) (.int .i64 mb) ∧ Own wx u2.heap.size (.int .i64 ha) (.int .i64 hb)) (fun vi _ => 6 - (intOf vi).toNat)
        case atStart => exact ⟨0, by omega, by omega, rfl, hB, hP, OA, OD, OM, OH⟩
        case round =>
          clear hB hP OA OD OM OH
          obtain ⟨j, j0, j6, rfl, hB, hP, OA, OD, OM, OH⟩ := hrel
          by_cases hj : j < 6
          · obtain ⟨m, hi⟩ := hidx.out j j0 hj
            clear hidx g1 g2 g3 g4 g5 hst r1 r2 r3 r4 m0 m1 wd0 wd1 d0 d1 r0' r1'
            obtain ⟨x, y, bo, an, e1, e2, e3, e4, h5, h6, h7⟩ := hall.out m
            clear hall
            have f1 := fun w => sHas_any q0 q1 m w
            have f2 := fun w => sHas_any q2 q3 m w
            have f3 := fun w => sHas_any ma mb m w
            have f4 := fun w => sHas_any ha hb m w
            simp only [e1, e2, e3, e4] at f1 f2 f3 f4
            clear e1 e2 e3 e4
            have A0 := OA.1
            have A1 := OA.2.1
            go_wp2_with fail
            clear A0 A1
            go_at_call 40
            refine (f1 _).mono ?_
            rintro e u11 ⟨rfl, hb11⟩
            (with_reducible (first | (replace hb11 := undrew hb11) | skip))
            clear f1
            replace OA := ownKeep hb11 OA
            replace OD := ownKeep hb11 OD
            replace OM := ownKeep hb11 OM
            replace OH := ownKeep hb11 OH
            replace hB := hB.step hb11
            replace hP := PrsAt.keep hb11 hP
            clear hb11
            have D0 := OD.1
            have D1 := OD.2.1
            go_wp2_with fail
            clear D0 D1
            go_at_call 40
            refine (f2 _).mono ?_
            rintro e u12 ⟨rfl, hb12⟩
            (with_reducible (first | (replace hb12 := undrew hb12) | skip))
            clear f2
            replace OA := ownKeep hb12 OA
            replace OD := ownKeep hb12 OD
            replace OM := ownKeep hb12 OM
            replace OH := ownKeep hb12 OH
            replace hB := hB.step hb12
            replace hP := PrsAt.keep hb12 hP
            clear hb12
            have M0 := OM.1
            have M1 := OM.2.1
            go_wp2_with fail
            clear M0 M1
            go_at_call 40
            refine (f3 _).mono ?_
            rintro e u13 ⟨rfl, hb13⟩
            (with_reducible (first | (replace hb13 := undrew hb13) | skip))
            clear f3
            replace OA := ownKeep hb13 OA
            replace OD := ownKeep hb13 OD
            replace OM := ownKeep hb13 OM
            replace OH := ownKeep hb13 OH
            replace hB := hB.step hb13
            replace hP := PrsAt.keep hb13 hP
            clear hb13
            have H0 := OH.1
            have H1 := OH.2.1
            go_wp2_with fail
            clear H0 H1
            go_at_call 40
            refine (f4 _).mono ?_
            rintro e u14 ⟨rfl, hb14⟩
            (with_reducible (first | (replace hb14 := undrew hb14) | skip))
            clear f4
            replace OA := ownKeep hb14 OA
            replace OD := ownKeep hb14 OD
            replace OM := ownKeep hb14 OM
            replace OH := ownKeep hb14 OH
            replace hB := hB.step hb14
            replace hP := PrsAt.keep hb14 hP
            clear hb14
            rcases hmc.out with rfl | rfl
            · obtain rfl := h5 rfl
              clear h5 h6 hmc
              cases x <;> cases y
              · clear h7
                go_wp2_with fail
                go_roundw
                case rel => exact ⟨j + 1, by omega, by omega, by go_num, hB, hP, OA, OD, OM, OH⟩
                case measure => simp [intOf]; omega
              · obtain rfl := h7 rfl
                go_wp2_with fail
                go_roundw
                case rel => exact ⟨j + 1, by omega, by omega, by go_num, hB, hP, OA, OD, OM, OH⟩
                case measure => simp [intOf]; omega
              · obtain rfl := h7 rfl
                go_wp2_with fail
                go_roundw
                case rel => exact ⟨j + 1, by omega, by omega, by go_num, hB, hP, OA, OD, OM, OH⟩
                case measure => simp [intOf]; omega
              · obtain rfl := h7 rfl
                go_wp2_with fail
                go_roundw
                case rel => exact ⟨j + 1, by omega, by omega, by go_num, hB, hP, OA, OD, OM, OH⟩
                case measure => simp [intOf]; omega
            · have h6 := h6 rfl
              clear h5 hmc
              cases x <;> cases y
              · clear h7 h6
                go_wp2_with fail
                go_roundw
                case rel => exact ⟨j + 1, by omega, by omega, by go_num, hB, hP, OA, OD, OM, OH⟩
                case measure => simp [intOf]; omega
              · obtain rfl := h7 rfl
                clear h6
                go_wp2_with fail
                go_roundw
                case rel => exact ⟨j + 1, by omega, by omega, by go_num, hB, hP, OA, OD, OM, OH⟩
                case measure => simp [intOf]; omega
              · obtain rfl := h7 rfl
                clear h6
                go_wp2_with fail
                go_roundw
                case rel => exact ⟨j + 1, by omega, by omega, by go_num, hB, hP, OA, OD, OM, OH⟩
                case measure => simp [intOf]; omega
              · cases h6
          · clear hidx hall hmc
            have A0 := OA.1
            have A1 := OA.2.1
            replace r1 := r1.out
            replace r2 := r2.out
            replace r3 := r3.out
            replace r4 := r4.out
            go_wp2_with fail
            go_at_call 42
            refine (g1 _).mono ?_
            rintro e u21 ⟨rfl, hb21⟩
            (with_reducible (first | (replace hb21 := undrew hb21) | skip))
            clear g1
            replace OA := ownKeep hb21 OA
            replace OD := ownKeep hb21 OD
            replace OM := ownKeep hb21 OM
            replace OH := ownKeep hb21 OH
            replace hB := hB.step hb21
            replace hP := PrsAt.keep hb21 hP
            clear A0 A1
            have A0 := OA.1
            have A1 := OA.2.1
            clear hb21
            go_wp2_with fail
            go_at_call 44
            refine (g2 _).mono ?_
            rintro e u22 ⟨rfl, hb22⟩
            (with_reducible (first | (replace hb22 := undrew hb22) | skip))
            clear g2
            replace OA := ownKeep hb22 OA
            replace OD := ownKeep hb22 OD
            replace OM := ownKeep hb22 OM
            replace OH := ownKeep hb22 OH
            replace hB := hB.step hb22
            replace hP := PrsAt.keep hb22 hP
            clear A0 A1
            have A0 := OA.1
            have A1 := OA.2.1
            clear hb22
            go_wp2_with fail
            clear r1 r2 r3 r4 m0 m1 wd0 wd1 d0 d1 r0' r1'
            go_at_call 46
            refine (g3 _).mono ?_
            rintro e u23 ⟨rfl, hb23⟩
            (with_reducible (first | (replace hb23 := undrew hb23) | skip))
            clear g3
            replace OA := ownKeep hb23 OA
            replace OD := ownKeep hb23 OD
            replace OM := ownKeep hb23 OM
            replace OH := ownKeep hb23 OH
            replace hB := hB.step hb23
            replace hP := PrsAt.keep hb23 hP
            clear A0 A1
            have A0 := OA.1
            have A1 := OA.2.1
            clear hb23
            go_wp2_with fail
            go_at_call 28
            refine (g4 _).mono ?_
            rintro e u24 ⟨rfl, hb24⟩
            (with_reducible (first | (replace hb24 := undrew hb24) | skip))
            clear g4
            replace OA := ownKeep hb24 OA
            replace OD := ownKeep hb24 OD
            replace OM := ownKeep hb24 OM
            replace OH := ownKeep hb24 OH
            replace hB := hB.step hb24
            replace hP := PrsAt.keep hb24 hP
            clear A0 A1
            have A0 := OA.1
            have A1 := OA.2.1
            clear hb24
            have N_B_N := Lib.hid (Nat.ne_of_lt (World.block_lt_of_cell? u24 _ (hP 0 (by omega)).1))
            have N_A_N := Lib.hid (Nat.ne_of_lt OA.2.2.2.2)
            have N_D_N := Lib.hid (Nat.ne_of_lt OD.2.2.2.2)
            have N_M_N := Lib.hid (Nat.ne_of_lt OM.2.2.2.2)
            have N_H_N := Lib.hid (Nat.ne_of_lt OH.2.2.2.2)
            have L_N := Lib.hid hB.out.size
            clear A0 A1
            go_wp2_with fail
            go_at_call 46
            refine (g5 _).mono ?_
            rintro e u25 ⟨rfl, hb25⟩
            (with_reducible (first | (replace hb25 := undrew hb25) | skip))
            clear g5
            replace OA := ownKeep hb25 (ownAlloc OA)
            replace OD := ownKeep hb25 (ownAlloc OD)
            replace OM := ownKeep hb25 (ownAlloc OM)
            replace OH := ownKeep hb25 (ownAlloc OH)
            replace hB := sinceA hB hb25
            replace hP := PrsAt.keep hb25 (PrsAt.alloc hP)
            have ON := ownNew hb25
            clear hb25
            rcases hst.out with ⟨rfl, rfl⟩ | ⟨rfl, rfl⟩ | ⟨rfl, rfl⟩ | ⟨rfl, rfl⟩
            · clear hst
              go_wp2_with fail
              go_roundw
              case rel => exact ⟨k + 1, by omega, by omega, by go_num, hB, hP⟩
              case measure => simp [intOf]; omega
            · clear hst
              go_wp2_with fail
              go_roundw
              case rel => exact ⟨k + 1, by omega, by omega, by go_num, hB, hP⟩
              case measure => simp [intOf]; omega
            · clear hst
              go_wp2_with fail
              go_roundw
              case rel => exact ⟨k + 1, by omega, by omega, by go_num, hB, hP⟩
              case measure => simp [intOf]; omega
            · clear hst
              go_wp2_with fail
              go_roundw
              case rel => exact ⟨k + 1, by omega, by omega, by go_num, hB, hP⟩
              case measure => simp [intOf]; omega
    · clear hV
      go_wp2
      go_wp2
      go_ret
      exact ⟨rfl, hB.out⟩

end Go.Proofs.YtpfmhpmpjejdcaaDoor
