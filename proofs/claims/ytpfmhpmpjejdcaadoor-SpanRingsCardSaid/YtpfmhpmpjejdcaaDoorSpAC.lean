/-
  The walk of SpanRings.
-/
import Derived.Test.YtpfmhpmpjejdcaaDoorSpAB
import Derived.Test.YtpfmhpmpjejdcaaDoorSpMa
namespace Go.Proofs.YtpfmhpmpjejdcaaDoor
open Go.RowKit

theorem within_true (a0 a1 b0 b1 : Int) (w : World) (h0 : b0 ≤ a0) (h1 : a1 ≤ b1) :
    Calls Tryd.prog 89 #[.agg #[.int .i64 a0, .int .i64 a1], .agg #[.int .i64 b0, .int .i64 b1]] w fun e w' => e = .returned (.bool true) ∧ Below w.heap.size w w' := by
  go_enter Tryd.func89, Tryd.ntmps89
  go_wp2
  go_ret
  exact ⟨rfl, by (repeat (first | with_reducible exact Below.refl _ _ | with_reducible assumption | refine Below.alloc ?_ (by (try simp); try omega) _ | refine Below.setCell ?_ (by (try simp); try omega) _ | refine below_drewN ?_ _ | refine Below.drew ?_ | (with_reducible refine Below.trans ?_ (Below.mono (by assumption) (by (try simp); try omega)))))⟩
theorem inside_true (a0 a1 e b0 b1 f : Int) (w : World) (h : f ≠ 0 ∨ (e = 0 ∧ b0 ≤ a0 ∧ a1 ≤ b1)) :
    Calls Tryd.prog 63 #[.agg #[.int .i64 a0, .int .i64 a1], .int .i64 e, .agg #[.int .i64 b0, .int .i64 b1], .int .i64 f] w fun e w' => e = .returned (.bool true) ∧ Below w.heap.size w w' := by
  by_cases hf : f = 0
  · subst hf
    obtain ⟨rfl, h0, h1⟩ : e = 0 ∧ b0 ≤ a0 ∧ a1 ≤ b1 := by rcases h with h | h; exact absurd rfl h; exact h
    have hw := fun w => within_true a0 a1 b0 b1 w h0 h1
    clear h h0 h1
    go_enter Tryd.func63, Tryd.ntmps63
    go_wp2_with (go_at_call 89; (with_reducible refine (hw _).mono ?_); rintro e w1 ⟨rfl, hb1⟩; (with_reducible (first | (replace hb1 := undrew hb1) | skip)))
    go_ret
    exact ⟨rfl, by (repeat (first | with_reducible exact Below.refl _ _ | with_reducible assumption | refine Below.alloc ?_ (by (try simp); try omega) _ | refine Below.setCell ?_ (by (try simp); try omega) _ | refine below_drewN ?_ _ | refine Below.drew ?_ | (with_reducible refine Below.trans ?_ (Below.mono (by assumption) (by (try simp); try omega)))))⟩
  · clear h
    go_enter Tryd.func63, Tryd.ntmps63
    go_wp2
    go_ret
    exact ⟨rfl, by (repeat (first | with_reducible exact Below.refl _ _ | with_reducible assumption | refine Below.alloc ?_ (by (try simp); try omega) _ | refine Below.setCell ?_ (by (try simp); try omega) _ | refine below_drewN ?_ _ | refine Below.drew ?_ | (with_reducible refine Below.trans ?_ (Below.mono (by assumption) (by (try simp); try omega)))))⟩
def FnOk (g : Nat) (q0 q1 q2 q3 ra rb rc : Int) : Prop :=
  (∀ w : World, Calls Tryd.prog g #[.agg #[.int .i64 q0, .int .i64 q1], .agg #[.int .i64 q2, .int .i64 q3]] w fun e w' => e = .returned (.tuple #[.agg #[.int .i64 ra, .int .i64 rb], .int .i64 rc]) ∧ Below w.heap.size w w') ∧
  (∀ w : World, Calls Tryd.prog g #[.agg #[.int .i64 q2, .int .i64 q3], .agg #[.int .i64 q0, .int .i64 q1]] w fun e w' => e = .returned (.tuple #[.agg #[.int .i64 ra, .int .i64 rb], .int .i64 rc]) ∧ Below w.heap.size w w')
theorem fnOk_mk (g : Nat) (q0 q1 q2 q3 : Int) (R : Int → Int → Int → Int → Int × Int × Int)
    (h : ∀ a b c d w, Calls Tryd.prog g #[.agg #[.int .i64 a, .int .i64 b], .agg #[.int .i64 c, .int .i64 d]] w fun e w' => e = .returned (.tuple #[.agg #[.int .i64 (R a b c d).1, .int .i64 (R a b c d).2.1], .int .i64 (R a b c d).2.2]) ∧ Below w.heap.size w w')
    (hc : R q2 q3 q0 q1 = R q0 q1 q2 q3) : FnOk g q0 q1 q2 q3 (R q0 q1 q2 q3).1 (R q0 q1 q2 q3).2.1 (R q0 q1 q2 q3).2.2 :=
  ⟨fun w => h q0 q1 q2 q3 w, fun w => by have := h q2 q3 q0 q1 w; rw [hc] at this; exact this⟩
theorem ringsSq {q0 q1 : Int} (v1 : ckS q0 q1 = 0) : (sMulR q0 q1 q0 q1).2.2 ≠ 0 ∨ ((sSqrR q0 q1).2.2 = 0 ∧ (sMulR q0 q1 q0 q1).1 ≤ (sSqrR q0 q1).1 ∧ (sSqrR q0 q1).2.1 ≤ (sMulR q0 q1 q0 q1).2.1) := by
  obtain ⟨lo, hi, e⟩ : ∃ l u, sMulR q0 q1 q0 q1 = (l, u, (sMulR q0 q1 q0 q1).2.2) := ⟨_, _, rfl⟩
  by_cases c : (sMulR q0 q1 q0 q1).2.2 = 0
  · rw [c] at e
    obtain ⟨l, u, e2, h1, h2⟩ := sqr_in v1 e
    right
    rw [e, e2]
    exact ⟨rfl, h1, h2⟩
  · exact Or.inl c
set_option maxRecDepth 100000 in
set_option maxHeartbeats 4000000 in
theorem spanRings_true (a b c d x y z x' y' z' : Int) (w : World) (hT0 : Tens w) (y0 : 0 ≤ y) (y1 : y ≤ 255) (z0 : 0 ≤ z) (z1 : z ≤ 4294967295) (y0' : 0 ≤ y') (y1' : y' ≤ 255) (z0' : 0 ≤ z') (z1' : z' ≤ 4294967295) :
    Calls Tryd.prog 9 #[.agg #[.int .i64 a, .int .i64 b, .int .i64 c, .int .i64 d, .int .i64 x, .int .u8 y, .int .u32 z, .int .i64 x', .int .u8 y', .int .u32 z']] w fun e w' => e = .returned (.bool true) ∧ Below w.heap.size w w' := by
  have hpr := fun w => pairs_any a b c d x y z x' y' z' w y0 y1 z0 z1 y0' y1' z0' z1'
  clear y0 y1 z0 z1 y0' y1' z0' z1'
  go_enter Tryd.func9, Tryd.ntmps9
  go_wp2_with fail
  go_at_call 12
  refine (works_true _ (hT0.below (by (repeat (first | with_reducible exact Below.refl _ _ | with_reducible assumption | refine Below.alloc ?_ (by (try simp); try omega) _ | refine Below.setCell ?_ (by (try simp); try omega) _ | refine below_drewN ?_ _ | refine Below.drew ?_ | (with_reducible refine Below.trans ?_ (Below.mono (by assumption) (by (try simp); try omega)))))))).mono ?_
  rintro e w1 ⟨rfl, hb1⟩
  have c0 : w1.cell? ⟨w.heap.size, 0, none⟩ = some (.int .i64 a) := bkeep hb1 (by simp)
  have c1 : w1.cell? ⟨w.heap.size, 1, none⟩ = some (.int .i64 b) := bkeep hb1 (by simp)
  have c2 : w1.cell? ⟨w.heap.size, 2, none⟩ = some (.int .i64 c) := bkeep hb1 (by simp)
  have c3 : w1.cell? ⟨w.heap.size, 3, none⟩ = some (.int .i64 d) := bkeep hb1 (by simp)
  have c4 : w1.cell? ⟨w.heap.size, 4, none⟩ = some (.int .i64 x) := bkeep hb1 (by simp)
  have c5 : w1.cell? ⟨w.heap.size, 5, none⟩ = some (.int .u8 y) := bkeep hb1 (by simp)
  have c6 : w1.cell? ⟨w.heap.size, 6, none⟩ = some (.int .u32 z) := bkeep hb1 (by simp)
  have c7 : w1.cell? ⟨w.heap.size, 7, none⟩ = some (.int .i64 x') := bkeep hb1 (by simp)
  have c8 : w1.cell? ⟨w.heap.size, 8, none⟩ = some (.int .u8 y') := bkeep hb1 (by simp)
  have c9 : w1.cell? ⟨w.heap.size, 9, none⟩ = some (.int .u32 z') := bkeep hb1 (by simp)
  have hB : Since w w1 := sinceA (Since.refl w) hb1
  clear hb1
  go_wp2_with fail
  go_at_call 23
  refine (hpr _).mono ?_
  rintro e w2 ⟨B, f, rfl, hP, hV, hb2⟩
  (with_reducible (first | (replace hb2 := undrew hb2) | skip))
  replace hB := hB.step hb2
  clear hb2 hpr c0 c1 c2 c3 c4 c5 c6 c7 c8 c9
  go_wp2_with fail
  clear hV
  go_loopw [29] (fun vi wr => ∃ k : Int, 0 ≤ k ∧ k ≤ 5 ∧ vi = .int .i64 k ∧ Since w wr ∧ PrsAt wr B f) (fun vi _ => 5 - (intOf vi).toNat)
  case atStart => exact ⟨0, by omega, by omega, rfl, hB, hP⟩
  case round =>
    clear hB hP
    obtain ⟨k, k0, k5, rfl, hB, hP⟩ := hrel
    by_cases hk : k < 5
    · obtain ⟨p0, p1, p2, p3⟩ := hP k.toNat (by omega)
      obtain ⟨q0, hq0⟩ : ∃ q, (f k.toNat).1 = q := ⟨_, rfl⟩
      obtain ⟨q1, hq1⟩ : ∃ q, (f k.toNat).2.1 = q := ⟨_, rfl⟩
      obtain ⟨q2, hq2⟩ : ∃ q, (f k.toNat).2.2.1 = q := ⟨_, rfl⟩
      obtain ⟨q3, hq3⟩ : ∃ q, (f k.toNat).2.2.2 = q := ⟨_, rfl⟩
      rw [hq0] at p0
      rw [hq1] at p1
      rw [hq2] at p2
      rw [hq3] at p3
      clear hq0 hq1 hq2 hq3
      rw [Nat.mul_comm] at p0 p1 p2 p3
      go_upto_region 6 with fail
      go_cut [5, 6] from 30 to 172 (fun va vb wx => ∃ p q : Nat, va = .pointer (some ⟨p, 0, none⟩) ∧ vb = .pointer (some ⟨q, 0, none⟩) ∧ Own wx p (.int .i64 q0) (.int .i64 q1) ∧ Own wx q (.int .i64 q2) (.int .i64 q3) ∧ Since w wx ∧ PrsAt wx B f)
      case first =>
        clear p0 p1 p2 p3
        replace hB : Since w (wr.alloc (.cells #[.int .i64 q0, .int .i64 q1, .int .i64 q2, .int .i64 q3] 29)) := hB.alloc
        replace hP : PrsAt (wr.alloc (.cells #[.int .i64 q0, .int .i64 q1, .int .i64 q2, .int .i64 q3] 29)) B f := hP.alloc
        go_region
        all_goals (go_wp2_with fail; go_meet)
        all_goals exact ⟨_, _, rfl, rfl, Own.drew (by first | exact ownFst _ _ _ _ _ _ (by simp) | exact ownSnd _ _ _ _ _ (by simp)), Own.drew (by first | exact ownFst _ _ _ _ _ _ (by simp) | exact ownSnd _ _ _ _ _ (by simp)), (hB.alloc.alloc).drew, (hP.alloc.alloc).drew⟩
      case rest =>
        obtain ⟨p, q, rfl, rfl, OA, OD, hB, hP⟩ := hcut
        clear p0 p1 p2 p3
        rcases ckS_cases q0 q1 with ⟨v1, -⟩ | ⟨v1, -⟩
        · rcases ckS_cases q2 q3 with ⟨v2, -⟩ | ⟨v2, -⟩
          · skip
            have f1 := fun w => sCheck_any q0 q1 w
            have f2 := fun w => sCheck_any q2 q3 w
            simp only [v1, v2] at f1 f2
            have A0 := OA.1
            have A1 := OA.2.1
            have D0 := OD.1
            have D1 := OD.2.1
            have hidx : ∀ j : Int, 0 ≤ j → j < 6 → ∃ (g : Nat) (ra rb rc : Int), (∀ w, (Instr.index 65 (.agg #[.func (.func 24) #[] #[], .func (.func 49) #[] #[], .func (.func 32) #[] #[], .func (.func 34) #[] #[], .func (.func 36) #[] #[], .func (.func 38) #[] #[]]) (.int .i64 j)).run Tryd.prog w = .ok (.func (.func g) #[] #[]) w) ∧ (∀ (args : Array Value) (w : World), Sem.run Tryd.prog (callFunc g args) w = .ok (.enter g args) w) ∧ FnOk g q0 q1 q2 q3 ra rb rc := by
              intro j h0 h1
              obtain rfl | rfl | rfl | rfl | rfl | rfl : j = 0 ∨ j = 1 ∨ j = 2 ∨ j = 3 ∨ j = 4 ∨ j = 5 := by omega
              · exact ⟨_, _, _, _, fun _ => by kernel_rfl, fun _ _ => by kernel_rfl, fnOk_mk 24 q0 q1 q2 q3 sAddR sAdd_any (add_comm2 _ _ _ _ v1 v2)⟩
              · exact ⟨_, _, _, _, fun _ => by kernel_rfl, fun _ _ => by kernel_rfl, fnOk_mk 49 q0 q1 q2 q3 sMulR sMul_any (mul_comm2 _ _ _ _ v1 v2)⟩
              · exact ⟨_, _, _, _, fun _ => by kernel_rfl, fun _ _ => by kernel_rfl, fnOk_mk 32 q0 q1 q2 q3 sMinR sMin_any (min_comm2 _ _ _ _ v1 v2)⟩
              · exact ⟨_, _, _, _, fun _ => by kernel_rfl, fun _ _ => by kernel_rfl, fnOk_mk 34 q0 q1 q2 q3 sMaxR sMax_any (max_comm2 _ _ _ _ v1 v2)⟩
              · exact ⟨_, _, _, _, fun _ => by kernel_rfl, fun _ _ => by kernel_rfl, fnOk_mk 36 q0 q1 q2 q3 sHullR sHull_any (hull_comm2 _ _ _ _ v1 v2)⟩
              · exact ⟨_, _, _, _, fun _ => by kernel_rfl, fun _ _ => by kernel_rfl, fnOk_mk 38 q0 q1 q2 q3 sMeetR sMeet_any (meet_comm2 _ _ _ _ v1 v2)⟩
            replace hidx := Lib.hid hidx
            go_wp2_with (first | (go_at_call 18; (with_reducible refine (f1 _).mono ?_); rintro e uz ⟨rfl, hb⟩; (with_reducible (first | (replace hb := undrew hb) | skip)); replace A0 := bkeep hb A0; replace A1 := bkeep hb A1; replace D0 := bkeep hb D0; replace D1 := bkeep hb D1; replace OA := ownKeep hb OA; replace OD := ownKeep hb OD; replace hB := hB.step hb; replace hP := PrsAt.keep hb hP; clear hb) | (go_at_call 18; (with_reducible refine (f2 _).mono ?_); rintro e uz ⟨rfl, hb⟩; (with_reducible (first | (replace hb := undrew hb) | skip)); replace A0 := bkeep hb A0; replace A1 := bkeep hb A1; replace D0 := bkeep hb D0; replace D1 := bkeep hb D1; replace OA := ownKeep hb OA; replace OD := ownKeep hb OD; replace hB := hB.step hb; replace hP := PrsAt.keep hb hP; clear hb))
            clear A0 A1 D0 D1 f1 f2
            go_loopw [54] (fun vi wx => ∃ j : Int, 0 ≤ j ∧ j ≤ 6 ∧ vi = .int .i64 j ∧ Since w wx ∧ PrsAt wx B f ∧ Own wx p (.int .i64 q0) (.int .i64 q1) ∧ Own wx q (.int .i64 q2) (.int .i64 q3)) (fun vi _ => 6 - (intOf vi).toNat)
            case atStart => exact ⟨0, by omega, by omega, rfl, hB, hP, OA, OD⟩
            case round =>
              clear hB hP OA OD
              obtain ⟨j, j0, j6, rfl, hB, hP, OA, OD⟩ := hrel
              by_cases hj : j < 6
              · obtain ⟨g, ra, rb, rc, hi, hrun, hg1, hg2⟩ := hidx.out j j0 hj
                clear hidx v1 v2
                have A0 := OA.1
                have A1 := OA.2.1
                have D0 := OD.1
                have D1 := OD.2.1
                go_wp2_with fail
                refine (hg1 _).mono ?_
                rintro e u11 ⟨rfl, hb11⟩
                (with_reducible (first | (replace hb11 := undrew hb11) | skip))
                clear hg1
                replace OA := ownKeep hb11 OA
                replace OD := ownKeep hb11 OD
                replace hB := hB.step hb11
                replace hP := PrsAt.keep hb11 hP
                clear A0 A1 D0 D1
                have A0 := OA.1
                have A1 := OA.2.1
                have D0 := OD.1
                have D1 := OD.2.1
                clear hb11
                have N_B_S := Lib.hid (Nat.ne_of_lt (World.block_lt_of_cell? u11 _ (hP 0 (by omega)).1))
                have N_A_S := Lib.hid (Nat.ne_of_lt OA.2.2.2.2)
                have N_D_S := Lib.hid (Nat.ne_of_lt OD.2.2.2.2)
                have L_S := Lib.hid hB.out.size
                have lA := OA.2.2.2.2
                have lD := OD.2.2.2.2
                go_wp2_with fail
                clear lA lD
                refine (hg2 _).mono ?_
                rintro e u12 ⟨rfl, hb12⟩
                (with_reducible (first | (replace hb12 := undrew hb12) | skip))
                clear hg2
                replace OA := ownKeep hb12 (ownAlloc OA)
                replace OD := ownKeep hb12 (ownAlloc OD)
                replace hB := sinceA hB hb12
                replace hP := PrsAt.keep hb12 (PrsAt.alloc hP)
                have OS := ownNew hb12
                clear A0 A1 D0 D1
                have A0 := OA.1
                have A1 := OA.2.1
                have D0 := OD.1
                have D1 := OD.2.1
                clear hb12
                clear A0 A1 D0 D1
                have N_B_R := Lib.hid (Nat.ne_of_lt (World.block_lt_of_cell? u12 _ (hP 0 (by omega)).1))
                have N_A_R := Lib.hid (Nat.ne_of_lt OA.2.2.2.2)
                have N_D_R := Lib.hid (Nat.ne_of_lt OD.2.2.2.2)
                have N_S_R := Lib.hid (Nat.ne_of_lt OS.2.2.2.2)
                have L_R := Lib.hid hB.out.size
                replace OA : Own (u12.alloc (.cells #[.int .i64 ra, .int .i64 rb] 23)) _ _ _ := ownAlloc OA
                replace OD : Own (u12.alloc (.cells #[.int .i64 ra, .int .i64 rb] 23)) _ _ _ := ownAlloc OD
                replace OS : Own (u12.alloc (.cells #[.int .i64 ra, .int .i64 rb] 23)) _ _ _ := ownAlloc OS
                have OR := ownHere u12 (.int .i64 ra) (.int .i64 rb) 23
                replace hB : Since w (u12.alloc (.cells #[.int .i64 ra, .int .i64 rb] 23)) := hB.alloc
                replace hP : PrsAt (u12.alloc (.cells #[.int .i64 ra, .int .i64 rb] 23)) _ _ := hP.alloc
                have S0 := OS.1
                have S1 := OS.2.1
                have R0 := OR.1
                have R1 := OR.2.1
                go_wp2_with fail
                go_at_call 20
                (with_reducible refine (alike_true _ _ _ _).mono ?_)
                rintro e u13 ⟨rfl, hb13⟩
                (with_reducible (first | (replace hb13 := undrew hb13) | skip))
                replace OA := ownKeep hb13 OA
                replace OD := ownKeep hb13 OD
                replace OS := ownKeep hb13 OS
                replace OR := ownKeep hb13 OR
                replace hB := hB.step hb13
                replace hP := PrsAt.keep hb13 hP
                clear S0 S1 R0 R1
                have S0 := OS.1
                have S1 := OS.2.1
                have R0 := OR.1
                have R1 := OR.2.1
                clear hb13
                clear S0 S1 R0 R1
                go_wp2_with fail
                go_roundw
                case rel => exact ⟨j + 1, by omega, by omega, by go_num, hB, hP, OA, OD⟩
                case measure => simp [intOf]; omega
              · clear hidx
                obtain ⟨d0, d1, d2⟩ := ckS_valid v2
                have k2 : ckS (-q3) (-q2) = 0 := ckS_ok (by omega) (by omega) (by omega)
                have k3 : ckS (-(-q2)) (-(-q3)) = 0 := ckS_ok (by omega) (by omega) (by omega)
                have g1 := fun w => sNeg_any q2 q3 w
                rw [show sNegR q2 q3 = (-q3, -q2, 0) by unfold sNegR; rw [if_pos v2]] at g1
                have g2 := fun w => sAdd_any q0 q1 (-q3) (-q2) w
                rw [sub_neg2 _ _ _ _ v1 v2 k2] at g2
                have g3 := fun w => sSub_any q0 q1 q2 q3 w
                have g4 := fun w => sNeg_any (-q3) (-q2) w
                rw [show sNegR (-q3) (-q2) = (q2, q3, 0) by unfold sNegR; rw [if_pos k2, Int.neg_neg, Int.neg_neg]] at g4
                have g5 := fun w => sPoint_any 4294967296 w
                rw [show ofR 4294967296 4294967296 = (4294967296, 4294967296, 0) by decide +kernel] at g5
                have g6 := fun w => sMul_any q0 q1 4294967296 4294967296 w
                rw [mul_one2 _ _ v1] at g6
                have g7 := fun w => sDiv_any q0 q1 4294967296 4294967296 w
                rw [div_one2 _ _ v1] at g7
                have g8 := fun w => sSqr_any q0 q1 w
                have g9 := fun w => sMul_any q0 q1 q0 q1 w
                have hin := ringsSq v1
                clear v1 v2 k2 k3 d0 d1 d2
                generalize sSubR q0 q1 q2 q3 = m at *
                obtain ⟨ma, mb, mc⟩ := m
                generalize sSqrR q0 q1 = r at *
                obtain ⟨ra, rb, rc⟩ := r
                generalize sMulR q0 q1 q0 q1 = o at *
                obtain ⟨oa, ob, oc⟩ := o
                simp only [] at g1 g2 g3 g4 g5 g6 g7 g8 g9 hin
                have hins := fun w => inside_true ra rb rc oa ob oc w hin
                clear hin
                have nq0 : (q0 != q0) = false := by simp
                have nq1 : (q1 != q1) = false := by simp
                have nq2 : (q2 != q2) = false := by simp
                have nq3 : (q3 != q3) = false := by simp
                have D0 := OD.1
                have D1 := OD.2.1
                have lD := OD.2.2.2.2
                go_wp2_with fail
                clear lD
                go_at_call 28
                refine (g1 _).mono ?_
                rintro e u21 ⟨rfl, hb21⟩
                (with_reducible (first | (replace hb21 := undrew hb21) | skip))
                clear g1
                replace OA := ownKeep hb21 OA
                replace OD := ownKeep hb21 OD
                replace hB := hB.step hb21
                replace hP := PrsAt.keep hb21 hP
                clear D0 D1
                have D0 := OD.1
                have D1 := OD.2.1
                clear hb21
                clear D0 D1
                have N_B_N := Lib.hid (Nat.ne_of_lt (World.block_lt_of_cell? u21 _ (hP 0 (by omega)).1))
                have N_A_N := Lib.hid (Nat.ne_of_lt OA.2.2.2.2)
                have N_D_N := Lib.hid (Nat.ne_of_lt OD.2.2.2.2)
                have L_N := Lib.hid hB.out.size
                have A0 := OA.1
                have A1 := OA.2.1
                have lA := OA.2.2.2.2
                go_wp2_with fail
                clear lA
                go_at_call 24
                refine (g2 _).mono ?_
                rintro e u22 ⟨rfl, hb22⟩
                (with_reducible (first | (replace hb22 := undrew hb22) | skip))
                clear g2
                replace OA := ownKeep hb22 (ownAlloc OA)
                replace OD := ownKeep hb22 (ownAlloc OD)
                replace hB := sinceA hB hb22
                replace hP := PrsAt.keep hb22 (PrsAt.alloc hP)
                have ON := ownNew hb22
                clear A0 A1
                have A0 := OA.1
                have A1 := OA.2.1
                clear hb22
                clear A0 A1
                have N_B_S := Lib.hid (Nat.ne_of_lt (World.block_lt_of_cell? u22 _ (hP 0 (by omega)).1))
                have N_A_S := Lib.hid (Nat.ne_of_lt OA.2.2.2.2)
                have N_D_S := Lib.hid (Nat.ne_of_lt OD.2.2.2.2)
                have N_N_S := Lib.hid (Nat.ne_of_lt ON.2.2.2.2)
                have L_S := Lib.hid hB.out.size
                have A0 := OA.1
                have A1 := OA.2.1
                have D0 := OD.1
                have D1 := OD.2.1
                have lA := OA.2.2.2.2
                have lD := OD.2.2.2.2
                go_wp2_with fail
                clear lA lD
                go_at_call 26
                refine (g3 _).mono ?_
                rintro e u23 ⟨rfl, hb23⟩
                (with_reducible (first | (replace hb23 := undrew hb23) | skip))
                clear g3
                replace OA := ownKeep hb23 (ownAlloc OA)
                replace OD := ownKeep hb23 (ownAlloc OD)
                replace ON := ownKeep hb23 (ownAlloc ON)
                replace hB := sinceA hB hb23
                replace hP := PrsAt.keep hb23 (PrsAt.alloc hP)
                have OS := ownNew hb23
                clear A0 A1 D0 D1
                have A0 := OA.1
                have A1 := OA.2.1
                have D0 := OD.1
                have D1 := OD.2.1
                clear hb23
                clear A0 A1 D0 D1
                have N_B_T := Lib.hid (Nat.ne_of_lt (World.block_lt_of_cell? u23 _ (hP 0 (by omega)).1))
                have N_A_T := Lib.hid (Nat.ne_of_lt OA.2.2.2.2)
                have N_D_T := Lib.hid (Nat.ne_of_lt OD.2.2.2.2)
                have N_N_T := Lib.hid (Nat.ne_of_lt ON.2.2.2.2)
                have N_S_T := Lib.hid (Nat.ne_of_lt OS.2.2.2.2)
                have L_T := Lib.hid hB.out.size
                have N0 := ON.1
                have N1 := ON.2.1
                have lN := ON.2.2.2.2
                go_wp2_with fail
                clear lN
                go_at_call 28
                refine (g4 _).mono ?_
                rintro e u24 ⟨rfl, hb24⟩
                (with_reducible (first | (replace hb24 := undrew hb24) | skip))
                clear g4
                replace OA := ownKeep hb24 (ownAlloc OA)
                replace OD := ownKeep hb24 (ownAlloc OD)
                replace ON := ownKeep hb24 (ownAlloc ON)
                replace OS := ownKeep hb24 (ownAlloc OS)
                replace hB := sinceA hB hb24
                replace hP := PrsAt.keep hb24 (PrsAt.alloc hP)
                have OT := ownNew hb24
                clear N0 N1
                have N0 := ON.1
                have N1 := ON.2.1
                clear hb24
                clear N0 N1
                have N_B_K := Lib.hid (Nat.ne_of_lt (World.block_lt_of_cell? u24 _ (hP 0 (by omega)).1))
                have N_A_K := Lib.hid (Nat.ne_of_lt OA.2.2.2.2)
                have N_D_K := Lib.hid (Nat.ne_of_lt OD.2.2.2.2)
                have N_N_K := Lib.hid (Nat.ne_of_lt ON.2.2.2.2)
                have N_S_K := Lib.hid (Nat.ne_of_lt OS.2.2.2.2)
                have N_T_K := Lib.hid (Nat.ne_of_lt OT.2.2.2.2)
                have L_K := Lib.hid hB.out.size
                replace OA : Own (u24.alloc (.cells #[.int .i64 q2, .int .i64 q3] 23)) _ _ _ := ownAlloc OA
                replace OD : Own (u24.alloc (.cells #[.int .i64 q2, .int .i64 q3] 23)) _ _ _ := ownAlloc OD
                replace ON : Own (u24.alloc (.cells #[.int .i64 q2, .int .i64 q3] 23)) _ _ _ := ownAlloc ON
                replace OS : Own (u24.alloc (.cells #[.int .i64 q2, .int .i64 q3] 23)) _ _ _ := ownAlloc OS
                replace OT : Own (u24.alloc (.cells #[.int .i64 q2, .int .i64 q3] 23)) _ _ _ := ownAlloc OT
                have OK := ownHere u24 (.int .i64 q2) (.int .i64 q3) 23
                replace hB : Since w (u24.alloc (.cells #[.int .i64 q2, .int .i64 q3] 23)) := hB.alloc
                replace hP : PrsAt (u24.alloc (.cells #[.int .i64 q2, .int .i64 q3] 23)) _ _ := hP.alloc
                have S0 := OS.1
                have S1 := OS.2.1
                have T0 := OT.1
                have T1 := OT.2.1
                have K0 := OK.1
                have K1 := OK.2.1
                have D0 := OD.1
                have D1 := OD.2.1
                go_wp2_with fail
                go_at_call 20
                (with_reducible refine (alike_true _ _ _ _).mono ?_)
                rintro e u25 ⟨rfl, hb25⟩
                (with_reducible (first | (replace hb25 := undrew hb25) | skip))
                replace OA := ownKeep hb25 OA
                replace OD := ownKeep hb25 OD
                replace ON := ownKeep hb25 ON
                replace OS := ownKeep hb25 OS
                replace OT := ownKeep hb25 OT
                replace OK := ownKeep hb25 OK
                replace hB := hB.step hb25
                replace hP := PrsAt.keep hb25 hP
                clear S0 S1 T0 T1 K0 K1 D0 D1
                have S0 := OS.1
                have S1 := OS.2.1
                have T0 := OT.1
                have T1 := OT.2.1
                have K0 := OK.1
                have K1 := OK.2.1
                have D0 := OD.1
                have D1 := OD.2.1
                clear hb25
                clear S0 S1 T0 T1 K0 K1 D0 D1
                go_wp2_with fail
                go_at_call 16
                refine (g5 _).mono ?_
                rintro e u26 ⟨rfl, hb26⟩
                (with_reducible (first | (replace hb26 := undrew hb26) | skip))
                clear g5
                replace OA := ownKeep hb26 OA
                replace OD := ownKeep hb26 OD
                replace ON := ownKeep hb26 ON
                replace OS := ownKeep hb26 OS
                replace OT := ownKeep hb26 OT
                replace OK := ownKeep hb26 OK
                replace hB := hB.step hb26
                replace hP := PrsAt.keep hb26 hP
                clear hb26
                have N_B_O := Lib.hid (Nat.ne_of_lt (World.block_lt_of_cell? u26 _ (hP 0 (by omega)).1))
                have N_A_O := Lib.hid (Nat.ne_of_lt OA.2.2.2.2)
                have N_D_O := Lib.hid (Nat.ne_of_lt OD.2.2.2.2)
                have N_N_O := Lib.hid (Nat.ne_of_lt ON.2.2.2.2)
                have N_S_O := Lib.hid (Nat.ne_of_lt OS.2.2.2.2)
                have N_T_O := Lib.hid (Nat.ne_of_lt OT.2.2.2.2)
                have N_K_O := Lib.hid (Nat.ne_of_lt OK.2.2.2.2)
                have L_O := Lib.hid hB.out.size
                have A0 := OA.1
                have A1 := OA.2.1
                have lA := OA.2.2.2.2
                go_wp2_with fail
                clear lA
                go_at_call 49
                refine (g6 _).mono ?_
                rintro e u27 ⟨rfl, hb27⟩
                (with_reducible (first | (replace hb27 := undrew hb27) | skip))
                clear g6
                replace OA := ownKeep hb27 (ownAlloc OA)
                replace OD := ownKeep hb27 (ownAlloc OD)
                replace ON := ownKeep hb27 (ownAlloc ON)
                replace OS := ownKeep hb27 (ownAlloc OS)
                replace OT := ownKeep hb27 (ownAlloc OT)
                replace OK := ownKeep hb27 (ownAlloc OK)
                replace hB := sinceA hB hb27
                replace hP := PrsAt.keep hb27 (PrsAt.alloc hP)
                have OO := ownNew hb27
                clear A0 A1
                have A0 := OA.1
                have A1 := OA.2.1
                clear hb27
                clear A0 A1
                have A0 := OA.1
                have A1 := OA.2.1
                have O0 := OO.1
                have O1 := OO.2.1
                have S0 := OS.1
                have S1 := OS.2.1
                have Sf0 := OS.2.2.1
                have Sf1 := OS.2.2.2.1
                have lA := OA.2.2.2.2
                have lO := OO.2.2.2.2
                have nA := N_A_S.out
                have nO := N_S_O.out.symm
                go_wp2_with fail
                clear A0 A1 lA nA O0 O1 lO nO S0 S1 Sf0 Sf1
                go_at_call 53
                refine (g7 _).mono ?_
                rintro e u28 ⟨rfl, hb28⟩
                (with_reducible (first | (replace hb28 := undrew hb28) | skip))
                clear g7
                replace OA := ownKeep hb28 (Own.far_set2 OA N_A_S.out)
                replace OD := ownKeep hb28 (Own.far_set2 OD N_D_S.out)
                replace ON := ownKeep hb28 (Own.far_set2 ON N_N_S.out)
                replace OS := ownKeep hb28 (Own.of_set2 OS)
                replace OT := ownKeep hb28 (Own.far_set2 OT N_S_T.out.symm)
                replace OK := ownKeep hb28 (Own.far_set2 OK N_S_K.out.symm)
                replace OO := ownKeep hb28 (Own.far_set2 OO N_S_O.out.symm)
                replace hB := (Since.set2 hB L_S.out).step hb28
                replace hP := PrsAt.keep hb28 (PrsAt.set2 hP N_B_S.out)
                clear hb28
                have A0 := OA.1
                have A1 := OA.2.1
                have S0 := OS.1
                have S1 := OS.2.1
                have T0 := OT.1
                have T1 := OT.2.1
                have Tf0 := OT.2.2.1
                have Tf1 := OT.2.2.2.1
                have lA := OA.2.2.2.2
                have lS := OS.2.2.2.2
                have nA := N_A_T.out
                have nS := N_S_T.out
                go_wp2_with fail
                clear A0 A1 lA nA S0 S1 lS nS T0 T1 Tf0 Tf1
                go_at_call 62
                refine (g8 _).mono ?_
                rintro e u29 ⟨rfl, hb29⟩
                (with_reducible (first | (replace hb29 := undrew hb29) | skip))
                clear g8
                replace OA := ownKeep hb29 (Own.far_set2 OA N_A_T.out)
                replace OD := ownKeep hb29 (Own.far_set2 OD N_D_T.out)
                replace ON := ownKeep hb29 (Own.far_set2 ON N_N_T.out)
                replace OS := ownKeep hb29 (Own.far_set2 OS N_S_T.out)
                replace OT := ownKeep hb29 (Own.of_set2 OT)
                replace OK := ownKeep hb29 (Own.far_set2 OK N_T_K.out.symm)
                replace OO := ownKeep hb29 (Own.far_set2 OO N_T_O.out.symm)
                replace hB := (Since.set2 hB L_T.out).step hb29
                replace hP := PrsAt.keep hb29 (PrsAt.set2 hP N_B_T.out)
                clear hb29
                have A0 := OA.1
                have A1 := OA.2.1
                have S0 := OS.1
                have S1 := OS.2.1
                have Sf0 := OS.2.2.1
                have Sf1 := OS.2.2.2.1
                have lA := OA.2.2.2.2
                have nA := N_A_S.out
                go_wp2_with fail
                clear A0 A1 lA nA S0 S1 Sf0 Sf1
                go_at_call 49
                refine (g9 _).mono ?_
                rintro e u30 ⟨rfl, hb30⟩
                (with_reducible (first | (replace hb30 := undrew hb30) | skip))
                clear g9
                replace OA := ownKeep hb30 (Own.far_set2 OA N_A_S.out)
                replace OD := ownKeep hb30 (Own.far_set2 OD N_D_S.out)
                replace ON := ownKeep hb30 (Own.far_set2 ON N_N_S.out)
                replace OS := ownKeep hb30 (Own.of_set2 OS)
                replace OT := ownKeep hb30 (Own.far_set2 OT N_S_T.out.symm)
                replace OK := ownKeep hb30 (Own.far_set2 OK N_S_K.out.symm)
                replace OO := ownKeep hb30 (Own.far_set2 OO N_S_O.out.symm)
                replace hB := (Since.set2 hB L_S.out).step hb30
                replace hP := PrsAt.keep hb30 (PrsAt.set2 hP N_B_S.out)
                clear hb30
                have S0 := OS.1
                have S1 := OS.2.1
                have T0 := OT.1
                have T1 := OT.2.1
                have Tf0 := OT.2.2.1
                have Tf1 := OT.2.2.2.1
                have lS := OS.2.2.2.2
                have nS := N_S_T.out
                go_wp2_with fail
                clear S0 S1 lS nS T0 T1 Tf0 Tf1
                go_at_call 63
                refine (hins _).mono ?_
                rintro e u31 ⟨rfl, hb31⟩
                (with_reducible (first | (replace hb31 := undrew hb31) | skip))
                clear hins
                replace OA := ownKeep hb31 (Own.far_set2 OA N_A_T.out)
                replace OD := ownKeep hb31 (Own.far_set2 OD N_D_T.out)
                replace ON := ownKeep hb31 (Own.far_set2 ON N_N_T.out)
                replace OS := ownKeep hb31 (Own.far_set2 OS N_S_T.out)
                replace OT := ownKeep hb31 (Own.of_set2 OT)
                replace OK := ownKeep hb31 (Own.far_set2 OK N_T_K.out.symm)
                replace OO := ownKeep hb31 (Own.far_set2 OO N_T_O.out.symm)
                replace hB := (Since.set2 hB L_T.out).step hb31
                replace hP := PrsAt.keep hb31 (PrsAt.set2 hP N_B_T.out)
                clear hb31
                go_wp2_with fail
                go_roundw
                case rel => exact ⟨k + 1, by omega, by omega, by go_num, hB, hP⟩
                case measure => simp [intOf]; omega
          · skip
            have f1 := fun w => sCheck_any q0 q1 w
            have f2 := fun w => sCheck_any q2 q3 w
            simp only [v1] at f1
            simp only [v2] at f2
            have g := fun w => sMul_any q0 q1 q2 q3 w
            rw [show sMulR q0 q1 q2 q3 = (0, 0, 20) by unfold sMulR; rw [if_neg (by unfold ck2S; rw [if_pos v1, v2]; decide)]] at g
            have A0 := OA.1
            have A1 := OA.2.1
            have D0 := OD.1
            have D1 := OD.2.1
            go_wp2_with (first | (go_at_call 18; (with_reducible refine (f1 _).mono ?_); rintro e uz ⟨rfl, hb⟩; (with_reducible (first | (replace hb := undrew hb) | skip)); replace A0 := bkeep hb A0; replace A1 := bkeep hb A1; replace D0 := bkeep hb D0; replace D1 := bkeep hb D1; replace OA := ownKeep hb OA; replace OD := ownKeep hb OD; replace hB := hB.step hb; replace hP := PrsAt.keep hb hP; clear hb) | (go_at_call 18; (with_reducible refine (f2 _).mono ?_); rintro e uz ⟨rfl, hb⟩; (with_reducible (first | (replace hb := undrew hb) | skip)); replace A0 := bkeep hb A0; replace A1 := bkeep hb A1; replace D0 := bkeep hb D0; replace D1 := bkeep hb D1; replace OA := ownKeep hb OA; replace OD := ownKeep hb OD; replace hB := hB.step hb; replace hP := PrsAt.keep hb hP; clear hb) | (go_at_call 49; (with_reducible refine (g _).mono ?_); rintro e uz ⟨rfl, hb⟩; (with_reducible (first | (replace hb := undrew hb) | skip)); replace A0 := bkeep hb A0; replace A1 := bkeep hb A1; replace D0 := bkeep hb D0; replace D1 := bkeep hb D1; replace OA := ownKeep hb OA; replace OD := ownKeep hb OD; replace hB := hB.step hb; replace hP := PrsAt.keep hb hP; clear hb))
            go_roundw
            case rel => exact ⟨k + 1, by omega, by omega, by go_num, hB.alloc, hP.alloc⟩
            case measure => simp [intOf]; omega
        · skip
          have f1 := fun w => sCheck_any q0 q1 w
          simp only [v1] at f1
          have g := fun w => sMul_any q0 q1 q2 q3 w
          rw [show sMulR q0 q1 q2 q3 = (0, 0, 20) by unfold sMulR; rw [if_neg (by unfold ck2S; rw [if_neg (by rw [v1]; decide)]; decide)]] at g
          have A0 := OA.1
          have A1 := OA.2.1
          have D0 := OD.1
          have D1 := OD.2.1
          go_wp2_with (first | (go_at_call 18; (with_reducible refine (f1 _).mono ?_); rintro e uz ⟨rfl, hb⟩; (with_reducible (first | (replace hb := undrew hb) | skip)); replace A0 := bkeep hb A0; replace A1 := bkeep hb A1; replace D0 := bkeep hb D0; replace D1 := bkeep hb D1; replace OA := ownKeep hb OA; replace OD := ownKeep hb OD; replace hB := hB.step hb; replace hP := PrsAt.keep hb hP; clear hb) | (go_at_call 49; (with_reducible refine (g _).mono ?_); rintro e uz ⟨rfl, hb⟩; (with_reducible (first | (replace hb := undrew hb) | skip)); replace A0 := bkeep hb A0; replace A1 := bkeep hb A1; replace D0 := bkeep hb D0; replace D1 := bkeep hb D1; replace OA := ownKeep hb OA; replace OD := ownKeep hb OD; replace hB := hB.step hb; replace hP := PrsAt.keep hb hP; clear hb))
          go_roundw
          case rel => exact ⟨k + 1, by omega, by omega, by go_num, hB.alloc, hP.alloc⟩
          case measure => simp [intOf]; omega
    · go_wp2
      go_wp2
      go_ret
      exact ⟨rfl, hB.out⟩

end Go.Proofs.YtpfmhpmpjejdcaaDoor
