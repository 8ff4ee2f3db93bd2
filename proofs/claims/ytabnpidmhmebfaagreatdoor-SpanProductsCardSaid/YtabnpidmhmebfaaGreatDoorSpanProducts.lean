/-
  SpanProducts: for every input the call returns true, and each argument reads afterwards as it read before; the one listed variable (the powers of ten of package fix) is tied to the program's text. No further condition.
-/
import Derived.Test.YtabnpidmhmebfaaGreatDoorSpTwo
import Derived.Test.YtabnpidmhmebfaaGreatDoorSpX
import Derived.Test.YtabnpidmhmebfaaGreatDoorSpR
import Derived.Test.YtabnpidmhmebfaaGreatDoorPwE
import Derived.Test.YtabnpidmhmebfaaGreatDoorPwD
namespace Go.Proofs.YtabnpidmhmebfaaGreatDoor
open Go.ChangeShapes Go.WideShapes Go.ChangeAt Go.WideMaps Go.WideElems Go.RowKit Go.Joins

set_option maxRecDepth 100000 in
set_option maxHeartbeats 4000000 in
theorem spanProducts_true (a b c d x y z x' y' z' v : Int) (w : World) (hT0 : Tens w) (y0 : 0 ≤ y) (y1 : y ≤ 255) (z0 : 0 ≤ z) (z1 : z ≤ 4294967295) (y0' : 0 ≤ y') (y1' : y' ≤ 255) (z0' : 0 ≤ z') (z1' : z' ≤ 4294967295) :
    Calls Tryz.prog 3 #[.agg #[.int .i64 a, .int .i64 b, .int .i64 c, .int .i64 d, .int .i64 x, .int .u8 y, .int .u32 z, .int .i64 x', .int .u8 y', .int .u32 z'], .int .i64 v] w fun e w' => e = .returned (.bool true) ∧ Below w.heap.size w w' := by
  have hpr := fun w => pairs_any a b c d x y z x' y' z' w y0 y1 z0 z1 y0' y1' z0' z1'
  clear y0 y1 z0 z1 y0' y1' z0' z1'
  go_enter Tryz.func3, Tryz.ntmps3
  go_wp2_with fail
  go_at_call 4
  refine (works_true _ (hT0.below (by (repeat (first | with_reducible exact Below.refl _ _ | with_reducible assumption | refine Below.alloc ?_ (by (try simp); try omega) _ | refine Below.setCell ?_ (by (try simp); try omega) _ | refine below_drewN ?_ _ | refine Below.drew ?_ | (with_reducible refine Below.trans ?_ (Below.mono (by assumption) (by (try simp); try omega)))))))).mono ?_
  rintro e w1 ⟨rfl, hb1⟩
  have c0 : w1.cell? ⟨w.heap.size, 0, none⟩ = some (.int .i64 a) := bkeep hb1 (by simp)
  have c1 : w1.cell? ⟨w.heap.size, 1, none⟩ = some (.int .i64 b) := bkeep hb1 (by simp)
  have c2 : w1.cell? ⟨w.heap.size, 2, none⟩ = some (.int .i64 c) := bkeep hb1 (by simp)
  have c3 : w1.cell? ⟨w.heap.size, 3, none⟩ = some (.int .i64 d) := bkeep hb1 (by simp)
  have c4 : w1.cell? ⟨w.heap.size, 4, none⟩ = some (.int .i64 x) := bkeep hb1 (by simp)
  have c5 : w1.cell? ⟨w.heap.size, 5, none⟩ = some (.int .u8 y) := bkeep hb1 (by simp)
  have c6 : w1.cell? ⟨w.heap.size, 6, none⟩ = some (.int .u32 z) := bkeep hb1 (by simp)
  have c7 : w1.cell? ⟨w.heap.size, 7, none⟩ = some (.int .i64 x') := bkeep hb1 (by simp)
  have c8 : w1.cell? ⟨w.heap.size, 8, none⟩ = some (.int .u8 y') := bkeep hb1 (by simp)
  have c9 : w1.cell? ⟨w.heap.size, 9, none⟩ = some (.int .u32 z') := bkeep hb1 (by simp)
  have hB : Since w w1 := sinceA (Since.refl w) hb1
  clear hb1
  go_wp2_with fail
  go_at_call 5
  refine (hpr _).mono ?_
  rintro e w2 ⟨B, f, rfl, hP, hV, hb2⟩
  (with_reducible (first | (replace hb2 := undrew hb2) | skip))
  replace hB := hB.step hb2
  clear hb2 hpr c0 c1 c2 c3 c4 c5 c6 c7 c8 c9
  go_wp2_with fail
  clear hV
  go_loopw [26] (fun vi wr => ∃ k : Int, 0 ≤ k ∧ k ≤ 5 ∧ vi = .int .i64 k ∧ Since w wr ∧ PrsAt wr B f) (fun vi _ => 5 - (intOf vi).toNat)
  case atStart => exact ⟨0, by omega, by omega, rfl, hB, hP⟩
  case round =>
    clear hB hP
    obtain ⟨k, k0, k5, rfl, hB, hP⟩ := hrel
    by_cases hk : k < 5
    · obtain ⟨p0, p1, p2, p3⟩ := hP k.toNat (by omega)
      obtain ⟨q0, hq0⟩ : ∃ q, (f k.toNat).1 = q := ⟨_, rfl⟩
      obtain ⟨q1, hq1⟩ : ∃ q, (f k.toNat).2.1 = q := ⟨_, rfl⟩
      obtain ⟨q2, hq2⟩ : ∃ q, (f k.toNat).2.2.1 = q := ⟨_, rfl⟩
      obtain ⟨q3, hq3⟩ : ∃ q, (f k.toNat).2.2.2 = q := ⟨_, rfl⟩
      rw [hq0] at p0
      rw [hq1] at p1
      rw [hq2] at p2
      rw [hq3] at p3
      clear hq0 hq1 hq2 hq3
      rw [Nat.mul_comm] at p0 p1 p2 p3
      have f1 := fun w => sMul_any q0 q1 q2 q3 w
      have f2 := fun w => rMul_any q0 q1 q2 q3 w
      have f3 := fun w => sSqr_any q0 q1 w
      have f4 := fun w => rSqr_any q0 q1 w
      generalize sMulR q0 q1 q2 q3 = m at *
      obtain ⟨ma, mb, mc⟩ := m
      generalize sSqrR q0 q1 = s at *
      obtain ⟨sa, sb, sc⟩ := s
      simp only [] at f1 f2 f3 f4
      go_wp2_with fail
      clear p0 p1 p2 p3
      go_at_call 6
      refine (f1 _).mono ?_
      rintro e u1 ⟨rfl, hb1⟩
      (with_reducible (first | (replace hb1 := undrew hb1) | skip))
      clear f1
      replace hB := sinceA hB hb1
      replace hP := PrsAt.keep hb1 (PrsAt.alloc hP)
      obtain ⟨P0, P1, P2, P3⟩ := newA4 hb1
      clear hb1
      have N_B_A := Lib.hid (Nat.ne_of_lt (World.block_lt_of_cell? u1 _ (hP 0 (by omega)).1))
      have lP := World.block_lt_of_cell? u1 _ P0
      simp only [] at lP
      have N_P_A := Lib.hid (Nat.ne_of_lt lP)
      have L_A := Lib.hid hB.out.size
      go_wp2_with fail
      go_at_call 7
      refine (f2 _).mono ?_
      rintro e u2 ⟨rfl, hb2⟩
      (with_reducible (first | (replace hb2 := undrew hb2) | skip))
      clear f2
      clear lP
      replace P0 := bkeep hb2 (cellAlloc P0)
      replace P1 := bkeep hb2 (cellAlloc P1)
      replace P2 := bkeep hb2 (cellAlloc P2)
      replace P3 := bkeep hb2 (cellAlloc P3)
      replace hB := sinceA hB hb2
      replace hP := PrsAt.keep hb2 (PrsAt.alloc hP)
      have OA := ownNew hb2
      clear hb2
      have N_B_C := Lib.hid (Nat.ne_of_lt (World.block_lt_of_cell? u2 _ (hP 0 (by omega)).1))
      have lP := World.block_lt_of_cell? u2 _ P0
      simp only [] at lP
      have N_P_C := Lib.hid (Nat.ne_of_lt lP)
      have N_A_C := Lib.hid (Nat.ne_of_lt OA.2.2.2.2)
      have L_C := Lib.hid hB.out.size
      go_wp2_with fail
      go_at_call 8
      refine (f3 _).mono ?_
      rintro e u3 ⟨rfl, hb3⟩
      (with_reducible (first | (replace hb3 := undrew hb3) | skip))
      clear f3
      clear lP
      replace P0 := bkeep hb3 (cellAlloc P0)
      replace P1 := bkeep hb3 (cellAlloc P1)
      replace P2 := bkeep hb3 (cellAlloc P2)
      replace P3 := bkeep hb3 (cellAlloc P3)
      replace OA := ownKeep hb3 (ownAlloc OA)
      replace hB := sinceA hB hb3
      replace hP := PrsAt.keep hb3 (PrsAt.alloc hP)
      have OC := ownNew hb3
      clear hb3
      have N_B_D := Lib.hid (Nat.ne_of_lt (World.block_lt_of_cell? u3 _ (hP 0 (by omega)).1))
      have lP := World.block_lt_of_cell? u3 _ P0
      simp only [] at lP
      have N_P_D := Lib.hid (Nat.ne_of_lt lP)
      have N_A_D := Lib.hid (Nat.ne_of_lt OA.2.2.2.2)
      have N_C_D := Lib.hid (Nat.ne_of_lt OC.2.2.2.2)
      have L_D := Lib.hid hB.out.size
      go_wp2_with fail
      go_at_call 9
      refine (f4 _).mono ?_
      rintro e u4 ⟨rfl, hb4⟩
      (with_reducible (first | (replace hb4 := undrew hb4) | skip))
      clear f4
      clear lP
      replace P0 := bkeep hb4 (cellAlloc P0)
      replace P1 := bkeep hb4 (cellAlloc P1)
      replace P2 := bkeep hb4 (cellAlloc P2)
      replace P3 := bkeep hb4 (cellAlloc P3)
      replace OA := ownKeep hb4 (ownAlloc OA)
      replace OC := ownKeep hb4 (ownAlloc OC)
      replace hB := sinceA hB hb4
      replace hP := PrsAt.keep hb4 (PrsAt.alloc hP)
      have OD := ownNew hb4
      clear hb4
      have N_B_E := Lib.hid (Nat.ne_of_lt (World.block_lt_of_cell? u4 _ (hP 0 (by omega)).1))
      have lP := World.block_lt_of_cell? u4 _ P0
      simp only [] at lP
      have N_P_E := Lib.hid (Nat.ne_of_lt lP)
      have N_A_E := Lib.hid (Nat.ne_of_lt OA.2.2.2.2)
      have N_C_E := Lib.hid (Nat.ne_of_lt OC.2.2.2.2)
      have N_D_E := Lib.hid (Nat.ne_of_lt OD.2.2.2.2)
      have L_E := Lib.hid hB.out.size
      replace P0 : (u4.alloc (.cells #[.int .i64 sa, .int .i64 sb] 23)).cell? _ = _ := cellAlloc P0
      replace P1 : (u4.alloc (.cells #[.int .i64 sa, .int .i64 sb] 23)).cell? _ = _ := cellAlloc P1
      replace P2 : (u4.alloc (.cells #[.int .i64 sa, .int .i64 sb] 23)).cell? _ = _ := cellAlloc P2
      replace P3 : (u4.alloc (.cells #[.int .i64 sa, .int .i64 sb] 23)).cell? _ = _ := cellAlloc P3
      replace OA : Own (u4.alloc (.cells #[.int .i64 sa, .int .i64 sb] 23)) _ _ _ := ownAlloc OA
      replace OC : Own (u4.alloc (.cells #[.int .i64 sa, .int .i64 sb] 23)) _ _ _ := ownAlloc OC
      replace OD : Own (u4.alloc (.cells #[.int .i64 sa, .int .i64 sb] 23)) _ _ _ := ownAlloc OD
      have OE := ownHere u4 (.int .i64 sa) (.int .i64 sb) 23
      replace hB : Since w (u4.alloc (.cells #[.int .i64 sa, .int .i64 sb] 23)) := hB.alloc
      replace hP : PrsAt (u4.alloc (.cells #[.int .i64 sa, .int .i64 sb] 23)) _ _ := hP.alloc
      have A0 := OA.1
      have A1 := OA.2.1
      have C0 := OC.1
      have C1 := OC.2.1
      have D0 := OD.1
      have D1 := OD.2.1
      have E0 := OE.1
      have E1 := OE.2.1
      go_wp2_with fail
      go_at_call 10
      (with_reducible refine (alike_true _ _ _ _).mono ?_)
      rintro e u5 ⟨rfl, hb5⟩
      (with_reducible (first | (replace hb5 := undrew hb5) | skip))
      clear lP
      replace P0 := bkeep hb5 P0
      replace P1 := bkeep hb5 P1
      replace P2 := bkeep hb5 P2
      replace P3 := bkeep hb5 P3
      replace OA := ownKeep hb5 OA
      replace OC := ownKeep hb5 OC
      replace OD := ownKeep hb5 OD
      replace OE := ownKeep hb5 OE
      replace hB := hB.step hb5
      replace hP := PrsAt.keep hb5 hP
      clear A0 A1 C0 C1 D0 D1 E0 E1
      have A0 := OA.1
      have A1 := OA.2.1
      have C0 := OC.1
      have C1 := OC.2.1
      have D0 := OD.1
      have D1 := OD.2.1
      have E0 := OE.1
      have E1 := OE.2.1
      clear hb5
      go_wp2_with fail
      go_at_call 10
      (with_reducible refine (alike_true _ _ _ _).mono ?_)
      rintro e u6 ⟨rfl, hb6⟩
      (with_reducible (first | (replace hb6 := undrew hb6) | skip))
      replace P0 := bkeep hb6 P0
      replace P1 := bkeep hb6 P1
      replace P2 := bkeep hb6 P2
      replace P3 := bkeep hb6 P3
      replace OA := ownKeep hb6 OA
      replace OC := ownKeep hb6 OC
      replace OD := ownKeep hb6 OD
      replace OE := ownKeep hb6 OE
      replace hB := hB.step hb6
      replace hP := PrsAt.keep hb6 hP
      clear A0 A1 C0 C1 D0 D1 E0 E1
      have A0 := OA.1
      have A1 := OA.2.1
      have C0 := OC.1
      have C1 := OC.2.1
      have D0 := OD.1
      have D1 := OD.2.1
      have E0 := OE.1
      have E1 := OE.2.1
      clear hb6
      clear A0 A1 C0 C1 D0 D1 E0 E1
      clear OA OC OD OE
      clear P2 P3
      go_wp2_with fail
      generalize wrap64 ((IntKind.u64.wrap v).tmod 18) = q4
      have hidx : ∀ j : Int, 0 ≤ j → j < 2 → ∃ n : Int, ∀ w, (Instr.index 39 (.agg #[.int .i64 v, .int .i64 q4]) (.int .i64 j)).run Tryz.prog w = .ok (.int .i64 n) w := by
        intro j h0 h1
        obtain rfl | rfl : j = 0 ∨ j = 1 := by omega
        · exact ⟨v, fun _ => by kernel_rfl⟩
        · exact ⟨q4, fun _ => by kernel_rfl⟩
      go_loopw [78] (fun vi wv => ∃ j : Int, 0 ≤ j ∧ j ≤ 2 ∧ vi = .int .i64 j ∧ Since w wv ∧ PrsAt wv B f ∧ wv.cell? ⟨wr.heap.size, 0, none⟩ = some (.int .i64 q0) ∧ wv.cell? ⟨wr.heap.size, 1, none⟩ = some (.int .i64 q1)) (fun vi _ => 2 - (intOf vi).toNat)
      case atStart => exact ⟨0, by omega, by omega, rfl, hB, hP, P0, P1⟩
      case round =>
        clear hB hP P0 P1
        obtain ⟨j, j0, j4, rfl, hB, hP, P0, P1⟩ := hrel
        by_cases hj : j < 2
        · obtain ⟨m, hi⟩ := hidx j j0 hj
          clear hidx
          have g1 := fun w => sPow_any q0 q1 m w
          have g2 := fun w => rPow_any q0 q1 m w
          generalize sPowR q0 q1 m = r at *
          obtain ⟨ra, rb, rc⟩ := r
          simp only [] at g1 g2
          go_wp2_with fail
          go_at_call 11
          refine (g1 _).mono ?_
          rintro e u21 ⟨rfl, hb21⟩
          (with_reducible (first | (replace hb21 := undrew hb21) | skip))
          clear g1
          replace P0 := bkeep hb21 P0
          replace P1 := bkeep hb21 P1
          replace hB := hB.step hb21
          replace hP := PrsAt.keep hb21 hP
          clear hb21
          have N_B_G := Lib.hid (Nat.ne_of_lt (World.block_lt_of_cell? u21 _ (hP 0 (by omega)).1))
          have lP := World.block_lt_of_cell? u21 _ P0
          simp only [] at lP
          have N_P_G := Lib.hid (Nat.ne_of_lt lP)
          have L_G := Lib.hid hB.out.size
          go_wp2_with fail
          go_at_call 12
          refine (g2 _).mono ?_
          rintro e u22 ⟨rfl, hb22⟩
          (with_reducible (first | (replace hb22 := undrew hb22) | skip))
          clear g2
          clear lP
          replace P0 := bkeep hb22 (cellAlloc P0)
          replace P1 := bkeep hb22 (cellAlloc P1)
          replace hB := sinceA hB hb22
          replace hP := PrsAt.keep hb22 (PrsAt.alloc hP)
          have OG := ownNew hb22
          clear hb22
          have N_B_H := Lib.hid (Nat.ne_of_lt (World.block_lt_of_cell? u22 _ (hP 0 (by omega)).1))
          have lP := World.block_lt_of_cell? u22 _ P0
          simp only [] at lP
          have N_P_H := Lib.hid (Nat.ne_of_lt lP)
          have N_G_H := Lib.hid (Nat.ne_of_lt OG.2.2.2.2)
          have L_H := Lib.hid hB.out.size
          replace P0 : (u22.alloc (.cells #[.int .i64 ra, .int .i64 rb] 23)).cell? _ = _ := cellAlloc P0
          replace P1 : (u22.alloc (.cells #[.int .i64 ra, .int .i64 rb] 23)).cell? _ = _ := cellAlloc P1
          replace OG : Own (u22.alloc (.cells #[.int .i64 ra, .int .i64 rb] 23)) _ _ _ := ownAlloc OG
          have OH := ownHere u22 (.int .i64 ra) (.int .i64 rb) 23
          replace hB : Since w (u22.alloc (.cells #[.int .i64 ra, .int .i64 rb] 23)) := hB.alloc
          replace hP : PrsAt (u22.alloc (.cells #[.int .i64 ra, .int .i64 rb] 23)) _ _ := hP.alloc
          have G0 := OG.1
          have G1 := OG.2.1
          have H0 := OH.1
          have H1 := OH.2.1
          go_wp2_with fail
          go_at_call 10
          (with_reducible refine (alike_true _ _ _ _).mono ?_)
          rintro e u23 ⟨rfl, hb23⟩
          (with_reducible (first | (replace hb23 := undrew hb23) | skip))
          clear lP
          replace P0 := bkeep hb23 P0
          replace P1 := bkeep hb23 P1
          replace OG := ownKeep hb23 OG
          replace OH := ownKeep hb23 OH
          replace hB := hB.step hb23
          replace hP := PrsAt.keep hb23 hP
          clear G0 G1 H0 H1
          have G0 := OG.1
          have G1 := OG.2.1
          have H0 := OH.1
          have H1 := OH.2.1
          clear hb23
          clear G0 G1 H0 H1
          go_wp2_with fail
          go_roundw
          case rel => exact ⟨j + 1, by omega, by omega, by go_num, hB, hP, P0, P1⟩
          case measure => simp [intOf]; omega
        · clear hidx
          go_wp2_with fail
          go_roundw
          case rel => exact ⟨k + 1, by omega, by omega, by go_num, hB, hP⟩
          case measure => simp [intOf]; omega
    · go_wp2
      go_wp2
      go_ret
      exact ⟨rfl, hB.out⟩

set_option maxRecDepth 100000 in
theorem spanProducts_lifted (os : Os) (started : os.Started) (H : Type) (enc : TypeId × Value → H) :
    ReturnsInHanded {} Tryz.checked os 3 .any (fun w args => (Rows.spanProductsSpec.pre enc Tryz.prog Tryz.f3 [] false w args ∧ laidMetH Tryz.prog laidTens w) ∧ sizedMet enc Tryz.prog Tryz.f3 (OpenSpec.ofChange Rows.spanProductsSpec) false w args)
      (Rows.spanProductsSpec.post enc Tryz.prog Tryz.f3 false true false false) := by
  refine returnsInHanded_of_change_and (C := Tryz.checked) (X := fun w _ => laidMetH Tryz.prog laidTens w) (fun _ _ _ hh h => h.of_heap hh) own started (by kernel_rfl) Tryz.func3
    (ChangeSpec.witness_shaped (enc := enc) (C := Tryz.checked) (os := os) (X := fun w _ => laidMetH Tryz.prog laidTens w) false (World.doorLaid Tryz.prog 400 os) #[.agg #[.int .i64 0, .int .i64 0, .int .i64 0, .int .i64 0, .int .i64 0, .int .u8 0, .int .u32 0, .int .i64 0, .int .u8 0, .int .u32 0], .int .i64 0] 8 rfl (World.shaped_of_RefB (by kernel_rfl) (by kernel_rfl)) (by kernel_rfl) (by kernel_rfl) (by kernel_rfl) (door_met os _)) ?_
  intro W base args ds gs before hval0 hW _ _ hL _
  have hval : ∀ (j : Nat) t v, Tryz.f3.params[j]? = some t → args[j]? = some v → Value.okWide Tryz.prog W .any base t v := hval0
  have hW' := hW
  obtain ⟨p, q, hA0, hV, rfl, hfz, hnd⟩ := hW
  have hA : DataW.TrodAll enc Tryz.prog W 0 (fun _ => true) true Tryz.f3.params.toList args.toList ds p := hA0
  rw [Tryz.params3] at hA hval
  obtain ⟨v0, v1, d0, d1, p0, p1, rfl, rfl, rfl, h0, h1⟩ := trodAll_two hA
  obtain ⟨rfl, rfl⟩ := trodVars_none hV
  have k0 := h0
  obtain ⟨a, b, c, d, x, y, z, x', y', z', rfl, rfl, y0, y1, z0, z1, y0', y1', z0', z1', wa, wb, wc, wd⟩ := open_two (hval 0 28 v0 rfl rfl) h0
  have k1 := h1
  obtain ⟨v, rfl, rfl, rfl, wv⟩ := open_int Tryz.underlying3 (hval 1 3 v1 rfl rfl) h1
  have hT := tens_of_laid hL
  clear hA0 hval0
  simp only [List.append_nil] at hW'
  refine (spanProducts_true a b c d x y z x' y' z' v W hT y0 y1 z0 z1 y0' y1' z0' z1').mono fun e W' ⟨he, hB⟩ => ?_
  subst he
  refine ⟨_, rfl, _, _, _, [], [], [], hW', ?_, ?_, ?_, hB.frame _, fun h => by cases h⟩
  · exact trodAll_mk1 (shut_bool Tryz.underlying4 _)
  · exact trodAll_mk2 (Below.trod (by kernel_rfl) (by kernel_rfl) (by decide +kernel) k0 hB (fun _ h => by cases h)) (Below.trod (by kernel_rfl) (by kernel_rfl) (by decide +kernel) k1 hB (fun _ h => by cases h))
  · rfl

theorem spanProducts_row : Rows.SpanProductsSaid :=
  OpenClaim.holds_of_wide 3 Tryz.f3 rfl rfl rfl rfl rfl rfl rfl ⟨rfl, rfl, rfl, rfl, rfl⟩ rfl rfl rfl rfl rfl (by kernel_rfl) Tryz.func3 (by kernel_rfl)
    (of_decide_eq_true (by kernel_rfl)) (by unfold Func.isWrapper; first | (rw [if_pos (by decide +kernel)]; kernel_rfl) | (rw [if_neg (by decide +kernel)]; exact ⟨rfl, rfl⟩))
    (fun os started H enc _ => spanProducts_lifted os started H enc)

theorem spanProducts_holds : Rows.SpanProductsCardSaid :=
  Claim7.holds_tied_plain_at .later [] [.data] true (true, "c243f36edc21352c4997c3451de8acf819c6263bd7c3aa331af5222977e3b3ea") false
    spanProducts_row (fun _ h => by cases h) (by kernel_rfl) (fun _ h => by cases h) spanProducts_row_tie rfl ⟨rfl, rfl⟩ (by kernel_rfl) rfl
    (fun f fn hf hfn => by
      obtain rfl : f = 3 := Option.some.inj ((show Tryz.prog.funcNamed "monocle/monoclelaw02.SpanProducts" = some 3 by kernel_rfl).symm.trans hf) |>.symm
      obtain rfl : fn = Tryz.f3 := (Option.some.inj (Tryz.func3.symm.trans hfn)).symm
      exact ⟨by kernel_rfl, fun j t ht => by
        rw [Tryz.params3] at ht
        have hm : t ∈ [28, 3] := by simpa using Array.mem_of_getElem? ht
        have hall : ([28, 3].all fun u => !Tryz.prog.wantsStandIn u) = true := by kernel_rfl
        exact (show Tryz.prog.wantsStandIn t = false by simpa using List.all_eq_true.1 hall t hm)⟩)
    (by kernel_rfl)
#print axioms spanProducts_holds
end Go.Proofs.YtabnpidmhmebfaaGreatDoor
