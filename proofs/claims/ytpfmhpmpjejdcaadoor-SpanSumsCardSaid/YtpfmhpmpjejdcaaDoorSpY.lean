/-
  The walk of SpanSums.
-/
import Derived.Test.YtpfmhpmpjejdcaaDoorSpX
namespace Go.Proofs.YtpfmhpmpjejdcaaDoor
open Go.RowKit

set_option maxRecDepth 100000 in
set_option maxHeartbeats 4000000 in
theorem spanSums_true (a b c d x y z x' y' z' : Int) (w : World) (hT0 : Tens w) (y0 : 0 ≤ y) (y1 : y ≤ 255) (z0 : 0 ≤ z) (z1 : z ≤ 4294967295) (y0' : 0 ≤ y') (y1' : y' ≤ 255) (z0' : 0 ≤ z') (z1' : z' ≤ 4294967295) :
    Calls Tryd.prog 4 #[.agg #[.int .i64 a, .int .i64 b, .int .i64 c, .int .i64 d, .int .i64 x, .int .u8 y, .int .u32 z, .int .i64 x', .int .u8 y', .int .u32 z']] w fun e w' => e = .returned (.bool true) ∧ Below w.heap.size w w' := by
  have hpr := fun w => pairs_any a b c d x y z x' y' z' w y0 y1 z0 z1 y0' y1' z0' z1'
  clear y0 y1 z0 z1 y0' y1' z0' z1'
  go_enter Tryd.func4, Tryd.ntmps4
  go_wp2_with fail
  go_at_call 12
  refine (works_true _ (hT0.below (by (repeat (first | with_reducible exact Below.refl _ _ | with_reducible assumption | refine Below.alloc ?_ (by (try simp); try omega) _ | refine Below.setCell ?_ (by (try simp); try omega) _ | refine below_drewN ?_ _ | refine Below.drew ?_ | (with_reducible refine Below.trans ?_ (Below.mono (by assumption) (by (try simp); try omega)))))))).mono ?_
  rintro e w1 ⟨rfl, hb1⟩
  have c0 : w1.cell? ⟨w.heap.size, 0, none⟩ = some (.int .i64 a) := bkeep hb1 (by simp)
  have c1 : w1.cell? ⟨w.heap.size, 1, none⟩ = some (.int .i64 b) := bkeep hb1 (by simp)
  have c2 : w1.cell? ⟨w.heap.size, 2, none⟩ = some (.int .i64 c) := bkeep hb1 (by simp)
  have c3 : w1.cell? ⟨w.heap.size, 3, none⟩ = some (.int .i64 d) := bkeep hb1 (by simp)
  have c4 : w1.cell? ⟨w.heap.size, 4, none⟩ = some (.int .i64 x) := bkeep hb1 (by simp)
  have c5 : w1.cell? ⟨w.heap.size, 5, none⟩ = some (.int .u8 y) := bkeep hb1 (by simp)
  have c6 : w1.cell? ⟨w.heap.size, 6, none⟩ = some (.int .u32 z) := bkeep hb1 (by simp)
  have c7 : w1.cell? ⟨w.heap.size, 7, none⟩ = some (.int .i64 x') := bkeep hb1 (by simp)
  have c8 : w1.cell? ⟨w.heap.size, 8, none⟩ = some (.int .u8 y') := bkeep hb1 (by simp)
  have c9 : w1.cell? ⟨w.heap.size, 9, none⟩ = some (.int .u32 z') := bkeep hb1 (by simp)
  have hB : Since w w1 := sinceA (Since.refl w) hb1
  clear hb1
  go_wp2_with fail
  go_at_call 23
  refine (hpr _).mono ?_
  rintro e w2 ⟨B, f, rfl, hP, hV, hb2⟩
  (with_reducible (first | (replace hb2 := undrew hb2) | skip))
  replace hB := hB.step hb2
  clear hb2 hpr c0 c1 c2 c3 c4 c5 c6 c7 c8 c9
  go_wp2_with fail
  clear hV
  go_loopw [22] (fun vi wr => ∃ k : Int, 0 ≤ k ∧ k ≤ 5 ∧ vi = .int .i64 k ∧ Since w wr ∧ PrsAt wr B f) (fun vi _ => 5 - (intOf vi).toNat)
  case atStart => exact ⟨0, by omega, by omega, rfl, hB, hP⟩
  case round =>
    clear hB hP
    obtain ⟨k, k0, k5, rfl, hB, hP⟩ := hrel
    by_cases hk : k < 5
    · obtain ⟨p0, p1, p2, p3⟩ := hP k.toNat (by omega)
      obtain ⟨q0, hq0⟩ : ∃ q, (f k.toNat).1 = q := ⟨_, rfl⟩
      obtain ⟨q1, hq1⟩ : ∃ q, (f k.toNat).2.1 = q := ⟨_, rfl⟩
      obtain ⟨q2, hq2⟩ : ∃ q, (f k.toNat).2.2.1 = q := ⟨_, rfl⟩
      obtain ⟨q3, hq3⟩ : ∃ q, (f k.toNat).2.2.2 = q := ⟨_, rfl⟩
      rw [hq0] at p0
      rw [hq1] at p1
      rw [hq2] at p2
      rw [hq3] at p3
      clear hq0 hq1 hq2 hq3
      rw [Nat.mul_comm] at p0 p1 p2 p3
      have f1 := fun w => sAdd_any q0 q1 q2 q3 w
      have f2 := fun w => rAdd_any q0 q1 q2 q3 w
      have f3 := fun w => sSub_any q0 q1 q2 q3 w
      have f4 := fun w => rSub_any q0 q1 q2 q3 w
      have f5 := fun w => sNeg_any q0 q1 w
      have f6 := fun w => rNeg_any q0 q1 w
      generalize sAddR q0 q1 q2 q3 = o at *
      obtain ⟨oa, ob, oc⟩ := o
      generalize sSubR q0 q1 q2 q3 = m at *
      obtain ⟨ma, mb, mc⟩ := m
      generalize sNegR q0 q1 = r at *
      obtain ⟨ra, rb, rc⟩ := r
      simp only [] at f1 f2 f3 f4 f5 f6
      go_wp2_with fail
      clear p0 p1 p2 p3
      go_at_call 24
      refine (f1 _).mono ?_
      rintro e u1 ⟨rfl, hb1⟩
      (with_reducible (first | (replace hb1 := undrew hb1) | skip))
      clear f1
      obtain ⟨P0, P1, P2, P3⟩ := newA4 hb1
      (with_reducible (first | (replace hB := hB.step hb1) | (replace hB := sinceA hB hb1)))
      (with_reducible (first | (replace hP := PrsAt.keep hb1 hP) | (replace hP := PrsAt.keep hb1 (PrsAt.alloc hP))))
      clear hb1
      have lP := World.block_lt_of_cell? u1 _ P0
      simp only [] at lP
      go_wp2_with fail
      go_at_call 25
      refine (f2 _).mono ?_
      rintro e u2 ⟨rfl, hb2⟩
      (with_reducible (first | (replace hb2 := undrew hb2) | skip))
      clear f2
      (with_reducible (first | (replace P0 := bkeep hb2 P0) | (replace P0 := bkeep hb2 (cellAlloc P0))))
      (with_reducible (first | (replace P1 := bkeep hb2 P1) | (replace P1 := bkeep hb2 (cellAlloc P1))))
      (with_reducible (first | (replace P2 := bkeep hb2 P2) | (replace P2 := bkeep hb2 (cellAlloc P2))))
      (with_reducible (first | (replace P3 := bkeep hb2 P3) | (replace P3 := bkeep hb2 (cellAlloc P3))))
      obtain ⟨s0, s1⟩ := newA2 hb2
      (with_reducible (first | (replace hB := hB.step hb2) | (replace hB := sinceA hB hb2)))
      (with_reducible (first | (replace hP := PrsAt.keep hb2 hP) | (replace hP := PrsAt.keep hb2 (PrsAt.alloc hP))))
      clear hb2
      clear lP
      have lP := World.block_lt_of_cell? u2 _ P0
      simp only [] at lP
      have ls := World.block_lt_of_cell? u2 _ s0
      simp only [] at ls
      go_wp2_with fail
      go_at_call 26
      refine (f3 _).mono ?_
      rintro e u3 ⟨rfl, hb3⟩
      (with_reducible (first | (replace hb3 := undrew hb3) | skip))
      clear f3
      (with_reducible (first | (replace P0 := bkeep hb3 P0) | (replace P0 := bkeep hb3 (cellAlloc P0))))
      (with_reducible (first | (replace P1 := bkeep hb3 P1) | (replace P1 := bkeep hb3 (cellAlloc P1))))
      (with_reducible (first | (replace P2 := bkeep hb3 P2) | (replace P2 := bkeep hb3 (cellAlloc P2))))
      (with_reducible (first | (replace P3 := bkeep hb3 P3) | (replace P3 := bkeep hb3 (cellAlloc P3))))
      (with_reducible (first | (replace s0 := bkeep hb3 s0) | (replace s0 := bkeep hb3 (cellAlloc s0))))
      (with_reducible (first | (replace s1 := bkeep hb3 s1) | (replace s1 := bkeep hb3 (cellAlloc s1))))
      obtain ⟨t0, t1⟩ := newA2 hb3
      (with_reducible (first | (replace hB := hB.step hb3) | (replace hB := sinceA hB hb3)))
      (with_reducible (first | (replace hP := PrsAt.keep hb3 hP) | (replace hP := PrsAt.keep hb3 (PrsAt.alloc hP))))
      clear hb3
      clear lP ls
      have lP := World.block_lt_of_cell? u3 _ P0
      simp only [] at lP
      have ls := World.block_lt_of_cell? u3 _ s0
      simp only [] at ls
      have lt := World.block_lt_of_cell? u3 _ t0
      simp only [] at lt
      go_wp2_with fail
      go_at_call 27
      refine (f4 _).mono ?_
      rintro e u4 ⟨rfl, hb4⟩
      (with_reducible (first | (replace hb4 := undrew hb4) | skip))
      clear f4
      (with_reducible (first | (replace P0 := bkeep hb4 P0) | (replace P0 := bkeep hb4 (cellAlloc P0))))
      (with_reducible (first | (replace P1 := bkeep hb4 P1) | (replace P1 := bkeep hb4 (cellAlloc P1))))
      (with_reducible (first | (replace P2 := bkeep hb4 P2) | (replace P2 := bkeep hb4 (cellAlloc P2))))
      (with_reducible (first | (replace P3 := bkeep hb4 P3) | (replace P3 := bkeep hb4 (cellAlloc P3))))
      (with_reducible (first | (replace s0 := bkeep hb4 s0) | (replace s0 := bkeep hb4 (cellAlloc s0))))
      (with_reducible (first | (replace s1 := bkeep hb4 s1) | (replace s1 := bkeep hb4 (cellAlloc s1))))
      (with_reducible (first | (replace t0 := bkeep hb4 t0) | (replace t0 := bkeep hb4 (cellAlloc t0))))
      (with_reducible (first | (replace t1 := bkeep hb4 t1) | (replace t1 := bkeep hb4 (cellAlloc t1))))
      obtain ⟨g0, g1⟩ := newA2 hb4
      (with_reducible (first | (replace hB := hB.step hb4) | (replace hB := sinceA hB hb4)))
      (with_reducible (first | (replace hP := PrsAt.keep hb4 hP) | (replace hP := PrsAt.keep hb4 (PrsAt.alloc hP))))
      clear hb4
      clear lP ls lt
      have lP := World.block_lt_of_cell? u4 _ P0
      simp only [] at lP
      have ls := World.block_lt_of_cell? u4 _ s0
      simp only [] at ls
      have lt := World.block_lt_of_cell? u4 _ t0
      simp only [] at lt
      have lg := World.block_lt_of_cell? u4 _ g0
      simp only [] at lg
      go_wp2_with fail
      go_at_call 28
      refine (f5 _).mono ?_
      rintro e u5 ⟨rfl, hb5⟩
      (with_reducible (first | (replace hb5 := undrew hb5) | skip))
      clear f5
      (with_reducible (first | (replace P0 := bkeep hb5 P0) | (replace P0 := bkeep hb5 (cellAlloc P0))))
      (with_reducible (first | (replace P1 := bkeep hb5 P1) | (replace P1 := bkeep hb5 (cellAlloc P1))))
      (with_reducible (first | (replace P2 := bkeep hb5 P2) | (replace P2 := bkeep hb5 (cellAlloc P2))))
      (with_reducible (first | (replace P3 := bkeep hb5 P3) | (replace P3 := bkeep hb5 (cellAlloc P3))))
      (with_reducible (first | (replace s0 := bkeep hb5 s0) | (replace s0 := bkeep hb5 (cellAlloc s0))))
      (with_reducible (first | (replace s1 := bkeep hb5 s1) | (replace s1 := bkeep hb5 (cellAlloc s1))))
      (with_reducible (first | (replace t0 := bkeep hb5 t0) | (replace t0 := bkeep hb5 (cellAlloc t0))))
      (with_reducible (first | (replace t1 := bkeep hb5 t1) | (replace t1 := bkeep hb5 (cellAlloc t1))))
      (with_reducible (first | (replace g0 := bkeep hb5 g0) | (replace g0 := bkeep hb5 (cellAlloc g0))))
      (with_reducible (first | (replace g1 := bkeep hb5 g1) | (replace g1 := bkeep hb5 (cellAlloc g1))))
      obtain ⟨h0, h1⟩ := newA2 hb5
      (with_reducible (first | (replace hB := hB.step hb5) | (replace hB := sinceA hB hb5)))
      (with_reducible (first | (replace hP := PrsAt.keep hb5 hP) | (replace hP := PrsAt.keep hb5 (PrsAt.alloc hP))))
      clear hb5
      clear lP ls lt lg
      have lP := World.block_lt_of_cell? u5 _ P0
      simp only [] at lP
      have ls := World.block_lt_of_cell? u5 _ s0
      simp only [] at ls
      have lt := World.block_lt_of_cell? u5 _ t0
      simp only [] at lt
      have lg := World.block_lt_of_cell? u5 _ g0
      simp only [] at lg
      have lh := World.block_lt_of_cell? u5 _ h0
      simp only [] at lh
      go_wp2_with fail
      go_at_call 29
      refine (f6 _).mono ?_
      rintro e u6 ⟨rfl, hb6⟩
      (with_reducible (first | (replace hb6 := undrew hb6) | skip))
      clear f6
      (with_reducible (first | (replace P0 := bkeep hb6 P0) | (replace P0 := bkeep hb6 (cellAlloc P0))))
      (with_reducible (first | (replace P1 := bkeep hb6 P1) | (replace P1 := bkeep hb6 (cellAlloc P1))))
      (with_reducible (first | (replace P2 := bkeep hb6 P2) | (replace P2 := bkeep hb6 (cellAlloc P2))))
      (with_reducible (first | (replace P3 := bkeep hb6 P3) | (replace P3 := bkeep hb6 (cellAlloc P3))))
      (with_reducible (first | (replace s0 := bkeep hb6 s0) | (replace s0 := bkeep hb6 (cellAlloc s0))))
      (with_reducible (first | (replace s1 := bkeep hb6 s1) | (replace s1 := bkeep hb6 (cellAlloc s1))))
      (with_reducible (first | (replace t0 := bkeep hb6 t0) | (replace t0 := bkeep hb6 (cellAlloc t0))))
      (with_reducible (first | (replace t1 := bkeep hb6 t1) | (replace t1 := bkeep hb6 (cellAlloc t1))))
      (with_reducible (first | (replace g0 := bkeep hb6 g0) | (replace g0 := bkeep hb6 (cellAlloc g0))))
      (with_reducible (first | (replace g1 := bkeep hb6 g1) | (replace g1 := bkeep hb6 (cellAlloc g1))))
      (with_reducible (first | (replace h0 := bkeep hb6 h0) | (replace h0 := bkeep hb6 (cellAlloc h0))))
      (with_reducible (first | (replace h1 := bkeep hb6 h1) | (replace h1 := bkeep hb6 (cellAlloc h1))))
      obtain ⟨i0, i1⟩ := newA2 hb6
      (with_reducible (first | (replace hB := hB.step hb6) | (replace hB := sinceA hB hb6)))
      (with_reducible (first | (replace hP := PrsAt.keep hb6 hP) | (replace hP := PrsAt.keep hb6 (PrsAt.alloc hP))))
      clear hb6
      clear lP ls lt lg lh
      have lP := World.block_lt_of_cell? u6 _ P0
      simp only [] at lP
      have ls := World.block_lt_of_cell? u6 _ s0
      simp only [] at ls
      have lt := World.block_lt_of_cell? u6 _ t0
      simp only [] at lt
      have lg := World.block_lt_of_cell? u6 _ g0
      simp only [] at lg
      have lh := World.block_lt_of_cell? u6 _ h0
      simp only [] at lh
      have li := World.block_lt_of_cell? u6 _ i0
      simp only [] at li
      replace P0 : (u6.alloc (.cells #[.int .i64 ra, .int .i64 rb] 23)).cell? _ = _ := cellAlloc P0
      replace P1 : (u6.alloc (.cells #[.int .i64 ra, .int .i64 rb] 23)).cell? _ = _ := cellAlloc P1
      replace P2 : (u6.alloc (.cells #[.int .i64 ra, .int .i64 rb] 23)).cell? _ = _ := cellAlloc P2
      replace P3 : (u6.alloc (.cells #[.int .i64 ra, .int .i64 rb] 23)).cell? _ = _ := cellAlloc P3
      replace s0 : (u6.alloc (.cells #[.int .i64 ra, .int .i64 rb] 23)).cell? _ = _ := cellAlloc s0
      replace s1 : (u6.alloc (.cells #[.int .i64 ra, .int .i64 rb] 23)).cell? _ = _ := cellAlloc s1
      replace t0 : (u6.alloc (.cells #[.int .i64 ra, .int .i64 rb] 23)).cell? _ = _ := cellAlloc t0
      replace t1 : (u6.alloc (.cells #[.int .i64 ra, .int .i64 rb] 23)).cell? _ = _ := cellAlloc t1
      replace g0 : (u6.alloc (.cells #[.int .i64 ra, .int .i64 rb] 23)).cell? _ = _ := cellAlloc g0
      replace g1 : (u6.alloc (.cells #[.int .i64 ra, .int .i64 rb] 23)).cell? _ = _ := cellAlloc g1
      replace h0 : (u6.alloc (.cells #[.int .i64 ra, .int .i64 rb] 23)).cell? _ = _ := cellAlloc h0
      replace h1 : (u6.alloc (.cells #[.int .i64 ra, .int .i64 rb] 23)).cell? _ = _ := cellAlloc h1
      replace i0 : (u6.alloc (.cells #[.int .i64 ra, .int .i64 rb] 23)).cell? _ = _ := cellAlloc i0
      replace i1 : (u6.alloc (.cells #[.int .i64 ra, .int .i64 rb] 23)).cell? _ = _ := cellAlloc i1
      have j0 := cellHere0 u6 (.int .i64 ra) (.int .i64 rb) 23
      have j1 := cellHere1 u6 (.int .i64 ra) (.int .i64 rb) 23
      replace hB : Since w (u6.alloc (.cells #[.int .i64 ra, .int .i64 rb] 23)) := hB.alloc
      replace hP : PrsAt (u6.alloc (.cells #[.int .i64 ra, .int .i64 rb] 23)) _ _ := hP.alloc
      clear P0 P1 P2 P3 lP
      go_wp2_with (first | (go_at_call 20; (with_reducible refine (alike_true _ _ _ _).mono ?_); rintro e uz ⟨rfl, hb⟩; (with_reducible (first | (replace hb := undrew hb) | skip)); (with_reducible (first | (replace s0 := bkeep hb s0) | (replace s0 := bkeep hb (cellAlloc s0)))); (with_reducible (first | (replace s1 := bkeep hb s1) | (replace s1 := bkeep hb (cellAlloc s1)))); (with_reducible (first | (replace t0 := bkeep hb t0) | (replace t0 := bkeep hb (cellAlloc t0)))); (with_reducible (first | (replace t1 := bkeep hb t1) | (replace t1 := bkeep hb (cellAlloc t1)))); (with_reducible (first | (replace g0 := bkeep hb g0) | (replace g0 := bkeep hb (cellAlloc g0)))); (with_reducible (first | (replace g1 := bkeep hb g1) | (replace g1 := bkeep hb (cellAlloc g1)))); (with_reducible (first | (replace h0 := bkeep hb h0) | (replace h0 := bkeep hb (cellAlloc h0)))); (with_reducible (first | (replace h1 := bkeep hb h1) | (replace h1 := bkeep hb (cellAlloc h1)))); (with_reducible (first | (replace i0 := bkeep hb i0) | (replace i0 := bkeep hb (cellAlloc i0)))); (with_reducible (first | (replace i1 := bkeep hb i1) | (replace i1 := bkeep hb (cellAlloc i1)))); (with_reducible (first | (replace j0 := bkeep hb j0) | (replace j0 := bkeep hb (cellAlloc j0)))); (with_reducible (first | (replace j1 := bkeep hb j1) | (replace j1 := bkeep hb (cellAlloc j1)))); (with_reducible (first | (replace hB := hB.step hb) | (replace hB := sinceA hB hb))); (with_reducible (first | (replace hP := PrsAt.keep hb hP) | (replace hP := PrsAt.keep hb (PrsAt.alloc hP)))); clear hb))
      go_roundw
      case rel => exact ⟨k + 1, by omega, by omega, by go_num, hB, hP⟩
      case measure => simp [intOf]; omega
    · go_wp2
      go_wp2
      go_ret
      exact ⟨rfl, hB.out⟩

end Go.Proofs.YtpfmhpmpjejdcaaDoor
