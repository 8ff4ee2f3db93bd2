/-
  The walk of SpanMakes.
-/
import Derived.Test.YtpfmhpmpjejdcaaDoorSpR
import Derived.Test.YtpfmhpmpjejdcaaDoorSpT
import Derived.Deep.RegionHeld3
namespace Go.Proofs.YtpfmhpmpjejdcaaDoor
open Go.RowKit

theorem keepA {w w' : World} {o : Obj} {p : Addr} {v : Value} (hb : Below (w.alloc o).heap.size (w.alloc o) w') (h : w.cell? p = some v) : w'.cell? p = some v :=
  bkeep hb (bkeep ((Below.refl _ w).alloc (Nat.le_refl _) o) h)
theorem newA2 {w w' : World} {a b : Value} {t : TypeId} (hb : Below (w.alloc (.cells #[a, b] t)).heap.size (w.alloc (.cells #[a, b] t)) w') : w'.cell? ⟨w.heap.size, 0, none⟩ = some a ∧ w'.cell? ⟨w.heap.size, 1, none⟩ = some b :=
  ⟨bkeep hb (by simp), bkeep hb (by simp)⟩
theorem Since.stepD {w a b : World} (h : Since w a) (k : Below a.drew.heap.size a.drew b) : Since w b := by
  have h' : Since w a.drew := Below.drew h.out
  exact h'.step k
theorem sinceA {w a b : World} {o : Obj} (h : Since w a) (k : Below (a.alloc o).heap.size (a.alloc o) b) : Since w b :=
  Since.step (w := w) (a := a.alloc o) (h.out.alloc h.out.size o) k

set_option maxRecDepth 100000 in
set_option maxHeartbeats 4000000 in
theorem spanMakes_true (a b n digits x y z : Int) (w : World) (hT0 : Tens w) (n0 : -9223372036854775808 ≤ n) (n1 : n ≤ 9223372036854775807) (_g0 : -9223372036854775808 ≤ digits) (_g1 : digits ≤ 9223372036854775807)
    (y0 : 0 ≤ y) (y1 : y ≤ 255) (z0 : 0 ≤ z) (z1 : z ≤ 4294967295) :
    Calls Tryd.prog 3 #[.agg #[.int .i64 a, .int .i64 b], .int .i64 n, .int .i64 digits, .agg #[.int .i64 x, .int .u8 y, .int .u32 z]] w fun e w' => e = .returned (.bool true) ∧ Below w.heap.size w w' := by
  obtain ⟨lo, hi, hck, hsp⟩ := drSpan_any x y z y0 y1 z0 z1
  go_enter Tryd.func3, Tryd.ntmps3
  go_wp2_with (go_at_call 12; refine (works_true _ (hT0.below (by (repeat (first | with_reducible exact Below.refl _ _ | with_reducible assumption | refine Below.alloc ?_ (by (try simp); try omega) _ | refine Below.setCell ?_ (by (try simp); try omega) _ | refine below_drewN ?_ _ | refine Below.drew ?_ | (with_reducible refine Below.trans ?_ (Below.mono (by assumption) (by (try simp); try omega)))))))).mono ?_; rintro e w1 ⟨rfl, hb1⟩; have c0 : w1.cell? ⟨w.heap.size, 0, none⟩ = some (.int .i64 a) := bkeep hb1 (by simp [go_sem]); have c1 : w1.cell? ⟨w.heap.size, 1, none⟩ = some (.int .i64 b) := bkeep hb1 (by simp [go_sem]); have d0 : w1.cell? ⟨w.heap.size + 1, 0, none⟩ = some (.int .i64 x) := bkeep hb1 (by simp [go_sem]); have d1 : w1.cell? ⟨w.heap.size + 1, 1, none⟩ = some (.int .u8 y) := bkeep hb1 (by simp [go_sem]); have d2 : w1.cell? ⟨w.heap.size + 1, 2, none⟩ = some (.int .u32 z) := bkeep hb1 (by simp [go_sem]))
  go_region_held3 (fun w' => w'.cell? ⟨w.heap.size, 0, none⟩ = some (.int .i64 a) ∧ w'.cell? ⟨w.heap.size, 1, none⟩ = some (.int .i64 b) ∧ w'.cell? ⟨w.heap.size + 1, 0, none⟩ = some (.int .i64 x) ∧ w'.cell? ⟨w.heap.size + 1, 1, none⟩ = some (.int .u8 y) ∧ w'.cell? ⟨w.heap.size + 1, 2, none⟩ = some (.int .u32 z))
    ((first | exact ⟨c0, c1, d0, d1, d2⟩))
    (first | (go_at_call 13; refine (hsp _).mono ?_; rintro e w2 ⟨rfl, hb2⟩; replace c0 := bkeep hb2 c0; replace c1 := bkeep hb2 c1; replace d0 := bkeep hb2 d0; replace d1 := bkeep hb2 d1; replace d2 := bkeep hb2 d2))
  go_wp2
  have j0 : ∀ w, (Instr.index 29 (.agg #[.int .i64 a, .int .i64 b, .int .i64 lo, .int .i64 hi]) (.int .i64 0)).run Tryd.prog w = .ok (.agg #[.int .i64 a, .int .i64 b]) w := fun _ => by kernel_rfl
  have j1 : ∀ w, (Instr.index 29 (.agg #[.int .i64 a, .int .i64 b, .int .i64 lo, .int .i64 hi]) (.int .i64 1)).run Tryd.prog w = .ok (.agg #[.int .i64 lo, .int .i64 hi]) w := fun _ => by kernel_rfl
  have hidx : ∀ k : Int, 0 ≤ k → k < 2 → ∃ p q : Int, ∀ w, (Instr.index 29 (.agg #[.int .i64 a, .int .i64 b, .int .i64 lo, .int .i64 hi]) (.int .i64 k)).run Tryd.prog w = .ok (.agg #[.int .i64 p, .int .i64 q]) w := by
    intro k h0 h1
    obtain rfl | rfl : k = 0 ∨ k = 1 := by omega
    · exact ⟨_, _, j0⟩
    · exact ⟨_, _, j1⟩
  have e0 : ∀ m w, (Instr.index 37 (.agg #[.int .i64 digits, .int .i64 m]) (.int .i64 0)).run Tryd.prog w = .ok (.int .i64 digits) w := fun _ _ => by kernel_rfl
  have e1 : ∀ m w, (Instr.index 37 (.agg #[.int .i64 digits, .int .i64 m]) (.int .i64 1)).run Tryd.prog w = .ok (.int .i64 m) w := fun _ _ => by kernel_rfl
  clear j0 j1 c0 c1 d0 d1 d2 hsp hck
  have hB : Since w w2 := by
    show Below w.heap.size w w2
    have hs1 := hb1.size
    (try simp at hs1)
    have hs2 : w.heap.size ≤ w1.heap.size := by omega
    (repeat (first | with_reducible exact Below.refl _ _ | with_reducible assumption | refine Below.alloc ?_ (by (try simp); try omega) _ | refine Below.setCell ?_ (by (try simp); try omega) _ | refine below_drewN ?_ _ | refine Below.drew ?_ | (with_reducible refine Below.trans ?_ (Below.mono (by assumption) (by (try simp); try omega)))))
  clear hb1 hb2
  go_loopw [31] (fun vi wr => ∃ k : Int, 0 ≤ k ∧ k ≤ 2 ∧ vi = .int .i64 k ∧ Since w wr) (fun vi _ => 2 - (intOf vi).toNat)
  case atStart => exact ⟨0, by omega, by omega, rfl, hB⟩
  case round =>
    clear hB
    obtain ⟨k, k0, k2, rfl, hB⟩ := hrel
    by_cases hk : k < 2
    · obtain ⟨p, q, hi1⟩ := hidx k k0 hk
      clear hidx e0 e1
      have f1 := fun w => sOf_any p q w
      have f2 := fun w => rOf_any p q w
      have f3 := fun w => sPoint_any p w
      have f4 := fun w => rPoint_any p w
      have f5 := fun w => sCheck_any p q w
      have f6 := fun w => rCheck_any p q w
      generalize ckS p q = ce at *
      generalize ofR p q = o1 at *
      generalize ofR p p = o2 at *
      obtain ⟨o1a, o1b, o1c⟩ := o1
      obtain ⟨o2a, o2b, o2c⟩ := o2
      have hne : (ce != ce) = false := by simp
      simp only [] at f1 f2 f3 f4
      go_wp2_with fail
      go_at_call 14
      refine (f1 _).mono ?_
      rintro e w3 ⟨rfl, hb3⟩
      clear f1
      obtain ⟨s0, s1⟩ := newA2 hb3
      replace hB := sinceA hB hb3
      clear hb3
      have ls3 := World.block_lt_of_cell? w3 _ s0
      simp only [] at ls3
      go_wp2_with fail
      go_at_call 15
      refine (f2 _).mono ?_
      rintro e w4 ⟨rfl, hb4⟩
      clear f2
      replace s0 := keepA hb4 s0
      replace s1 := keepA hb4 s1
      obtain ⟨t0, t1⟩ := newA2 hb4
      replace hB := sinceA hB hb4
      clear hb4
      have ls4 := World.block_lt_of_cell? w4 _ s0
      simp only [] at ls4
      have lt4 := World.block_lt_of_cell? w4 _ t0
      simp only [] at lt4
      go_wp2_with fail
      go_at_call 16
      refine (f3 _).mono ?_
      rintro e w5 ⟨rfl, hb5⟩
      clear f3
      replace s0 := keepA hb5 s0
      replace s1 := keepA hb5 s1
      replace t0 := keepA hb5 t0
      replace t1 := keepA hb5 t1
      obtain ⟨u0, u1⟩ := newA2 hb5
      replace hB := sinceA hB hb5
      clear hb5
      have ls5 := World.block_lt_of_cell? w5 _ s0
      simp only [] at ls5
      have lt5 := World.block_lt_of_cell? w5 _ t0
      simp only [] at lt5
      have lu5 := World.block_lt_of_cell? w5 _ u0
      simp only [] at lu5
      go_wp2_with fail
      go_at_call 17
      refine (f4 _).mono ?_
      rintro e w6 ⟨rfl, hb6⟩
      clear f4
      replace s0 := keepA hb6 s0
      replace s1 := keepA hb6 s1
      replace t0 := keepA hb6 t0
      replace t1 := keepA hb6 t1
      replace u0 := keepA hb6 u0
      replace u1 := keepA hb6 u1
      obtain ⟨v0, v1⟩ := newA2 hb6
      replace hB := sinceA hB hb6
      clear hb6
      have ls6 := World.block_lt_of_cell? w6 _ s0
      simp only [] at ls6
      have lt6 := World.block_lt_of_cell? w6 _ t0
      simp only [] at lt6
      have lu6 := World.block_lt_of_cell? w6 _ u0
      simp only [] at lu6
      have lv6 := World.block_lt_of_cell? w6 _ v0
      simp only [] at lv6
      have hA : Below w6.heap.size w6 (w6.alloc (.cells #[.int .i64 o2a, .int .i64 o2b] 23)) := (Below.refl _ w6).alloc (Nat.le_refl _) _
      replace s0 := bkeep hA s0
      replace s1 := bkeep hA s1
      replace t0 := bkeep hA t0
      replace t1 := bkeep hA t1
      replace u0 := bkeep hA u0
      replace u1 := bkeep hA u1
      replace v0 := bkeep hA v0
      replace v1 := bkeep hA v1
      have x0 : (w6.alloc (.cells #[.int .i64 o2a, .int .i64 o2b] 23)).cell? ⟨w6.heap.size, 0, none⟩ = some (.int .i64 o2a) := by simp
      have x1 : (w6.alloc (.cells #[.int .i64 o2a, .int .i64 o2b] 23)).cell? ⟨w6.heap.size, 1, none⟩ = some (.int .i64 o2b) := by simp
      replace hB : Since w (w6.alloc (.cells #[.int .i64 o2a, .int .i64 o2b] 23)) := hB.out.alloc hB.out.size _
      clear hA
      go_wp2_with fail
      go_region_held3 (fun w' => w'.cell? ⟨wr.heap.size, 0, none⟩ = some (.int .i64 p) ∧ w'.cell? ⟨wr.heap.size, 1, none⟩ = some (.int .i64 q) ∧ w'.cell? ⟨w3.heap.size, 0, none⟩ = some (.int .i64 o1a) ∧ w'.cell? ⟨w3.heap.size, 1, none⟩ = some (.int .i64 o1b) ∧ w'.cell? ⟨w4.heap.size, 0, none⟩ = some (.int .i64 o1a) ∧ w'.cell? ⟨w4.heap.size, 1, none⟩ = some (.int .i64 o1b) ∧ w'.cell? ⟨w5.heap.size, 0, none⟩ = some (.int .i64 o2a) ∧ w'.cell? ⟨w5.heap.size, 1, none⟩ = some (.int .i64 o2b) ∧ w'.cell? ⟨w6.heap.size, 0, none⟩ = some (.int .i64 o2a) ∧ w'.cell? ⟨w6.heap.size, 1, none⟩ = some (.int .i64 o2b))
        ((first | exact ⟨s0, s1, t0, t1, u0, u1, v0, v1, x0, x1⟩))
        (first | (go_at_call 18; refine (f5 _).mono ?_; rintro e w7 ⟨rfl, hb⟩; replace s0 := bkeep hb s0; replace s1 := bkeep hb s1; replace t0 := bkeep hb t0; replace t1 := bkeep hb t1; replace u0 := bkeep hb u0; replace u1 := bkeep hb u1; replace v0 := bkeep hb v0; replace v1 := bkeep hb v1; replace x0 := bkeep hb x0; replace x1 := bkeep hb x1; (first | replace hB := hB.stepD hb | replace hB := hB.step hb); clear hb) | (go_at_call 19; refine (f6 _).mono ?_; rintro e w7 ⟨rfl, hb⟩; replace s0 := bkeep hb s0; replace s1 := bkeep hb s1; replace t0 := bkeep hb t0; replace t1 := bkeep hb t1; replace u0 := bkeep hb u0; replace u1 := bkeep hb u1; replace v0 := bkeep hb v0; replace v1 := bkeep hb v1; replace x0 := bkeep hb x0; replace x1 := bkeep hb x1; (first | replace hB := hB.stepD hb | replace hB := hB.step hb); clear hb) | (go_at_call 20; refine (alike_true _ _ _ _).mono ?_; rintro e w7 ⟨rfl, hb⟩; replace s0 := bkeep hb s0; replace s1 := bkeep hb s1; replace t0 := bkeep hb t0; replace t1 := bkeep hb t1; replace u0 := bkeep hb u0; replace u1 := bkeep hb u1; replace v0 := bkeep hb v0; replace v1 := bkeep hb v1; replace x0 := bkeep hb x0; replace x1 := bkeep hb x1; (first | replace hB := hB.stepD hb | replace hB := hB.step hb); clear hb))
      go_wp2
      go_roundw
      case rel => exact ⟨k + 1, by omega, by omega, by go_num, hB⟩
      case measure => simp [intOf]; omega
    · clear hidx
      have fd := fun (p : Int) (W : World) (h : Since w W) => sDec_any n p W (hT0.below h.out) n0 n1
      have fr := fun (p : Int) (W : World) => rDec_any n p W n0 n1
      go_wp2
      go_loopw [90] (fun vi wr => ∃ k : Int, 0 ≤ k ∧ k ≤ 2 ∧ vi = .int .i64 k ∧ Since w wr) (fun vi _ => 2 - (intOf vi).toNat)
      case atStart => exact ⟨0, by omega, by omega, rfl, hB⟩
      case round =>
        clear hB
        obtain ⟨k', k0', k2', rfl, hB⟩ := hrel
        obtain rfl | rfl | rfl : k' = 0 ∨ k' = 1 ∨ k' = 2 := by omega
        · clear e1
          go_wp2_with fail
          go_at_call 21
          refine (fd _ _ hB).mono ?_
          rintro e w3 ⟨rfl, hb3⟩
          replace hB := hB.step hb3
          clear fd hb3
          go_wp2_with fail
          go_at_call 22
          refine (fr _ _).mono ?_
          rintro e w4 ⟨rfl, hb4⟩
          obtain ⟨sa0, sa1⟩ := newA2 hb4
          replace hB := sinceA hB hb4
          have lsa := World.block_lt_of_cell? w4 _ sa0
          simp only [] at lsa
          clear fr hb4
          go_wp2_with (go_at_call 20; refine (alike_true _ _ _ _).mono ?_; rintro e w5 ⟨rfl, hb5⟩; replace hB := sinceA hB hb5)
          go_roundw
          case rel => exact ⟨1, by omega, by omega, rfl, hB⟩
          case measure => simp [intOf]
        · clear e0
          go_wp2_with fail
          go_at_call 21
          refine (fd _ _ hB).mono ?_
          rintro e w3 ⟨rfl, hb3⟩
          replace hB := hB.step hb3
          clear fd hb3
          go_wp2_with fail
          go_at_call 22
          refine (fr _ _).mono ?_
          rintro e w4 ⟨rfl, hb4⟩
          obtain ⟨sa0, sa1⟩ := newA2 hb4
          replace hB := sinceA hB hb4
          have lsa := World.block_lt_of_cell? w4 _ sa0
          simp only [] at lsa
          clear fr hb4
          go_wp2_with (go_at_call 20; refine (alike_true _ _ _ _).mono ?_; rintro e w5 ⟨rfl, hb5⟩; replace hB := sinceA hB hb5)
          go_roundw
          case rel => exact ⟨2, by omega, by omega, rfl, hB⟩
          case measure => simp [intOf]
        · go_wp2
          go_ret
          exact ⟨rfl, hB.out⟩

end Go.Proofs.YtpfmhpmpjejdcaaDoor
