/-
  Helpers of VecNarrows: within, inside, part, and the vector of a choice.
-/
import Derived.Test.YtnfapdmbkpkkdaaVcL
import Derived.Test.YtnfapdmbkpkkdaaVcS
import Derived.Deep.RegionHeld3
import Derived.IntWalk
import Derived.Deep.QuietTactic
import Derived.BigQuiet
import Derived.Deep.CutBlock
namespace Go.Proofs.Ytnfapdmbkpkkdaa
open Go.RowKit

theorem Bn.put {w : World} {g : Nat} {xs : Array Value} {t : TypeId} (h : Bn w g xs t) (i : Nat) (u : Value) (ys : Array Value) (e : xs.setIfInBounds i u = ys) : Bn (w.setCell ⟨g, i, none⟩ u) g ys t := by
  subst e
  unfold Bn
  rw [heap_setCell_same w g i _ t u h]
theorem within_true (p q l h : Int) (w : World) (h0 : l ≤ p) (h1 : q ≤ h) :
    Calls Try.prog 16 #[.agg #[.int .i64 p, .int .i64 q], .agg #[.int .i64 l, .int .i64 h]] w fun r w' => r = .returned (.bool true) ∧ Below w.heap.size w w' := by
  go_enter Try.func16, Try.ntmps16
  go_wp2
  go_ret
  exact ⟨rfl, by (repeat (first | with_reducible exact Below.refl _ _ | with_reducible assumption | refine Below.alloc ?_ (by (try simp); try omega) _ | refine Below.setCell ?_ (by (try simp); try omega) _ | refine below_drewN ?_ _ | refine Below.drew ?_ | (with_reducible refine Below.trans ?_ (Below.mono (by assumption) (by (try simp); try omega)))))⟩
set_option maxHeartbeats 4000000 in
theorem inside_true (a0 a1 a2 a3 a4 a5 e b0 b1 b2 b3 b4 b5 f : Int) (w : World) (h : f = 0 → e = 0 ∧ Wn b0 b1 a0 a1 ∧ Wn b2 b3 a2 a3 ∧ Wn b4 b5 a4 a5) :
    Calls Try.prog 13 #[.agg #[.int .i64 a0, .int .i64 a1, .int .i64 a2, .int .i64 a3, .int .i64 a4, .int .i64 a5], .int .i64 e, .agg #[.int .i64 b0, .int .i64 b1, .int .i64 b2, .int .i64 b3, .int .i64 b4, .int .i64 b5], .int .i64 f] w fun r w' => r = .returned (.bool true) ∧ Below w.heap.size w w' := by
  by_cases hf : f = 0
  · subst hf
    obtain ⟨rfl, ⟨h0, h1⟩, ⟨h2, h3⟩, ⟨h4, h5⟩⟩ := h rfl
    have t0 := fun w => within_true a0 a1 b0 b1 w h0 h1
    have t1 := fun w => within_true a2 a3 b2 b3 w h2 h3
    have t2 := fun w => within_true a4 a5 b4 b5 w h4 h5
    clear h h0 h1 h2 h3 h4 h5
    have b0_ := (Bn.new w #[.int .i64 a0, .int .i64 a1, .int .i64 a2, .int .i64 a3, .int .i64 a4, .int .i64 a5] 25).alloc (.cells #[.int .i64 b0, .int .i64 b1, .int .i64 b2, .int .i64 b3, .int .i64 b4, .int .i64 b5] 25)
    have b1_ := Bn.new (w.alloc (.cells #[.int .i64 a0, .int .i64 a1, .int .i64 a2, .int .i64 a3, .int .i64 a4, .int .i64 a5] 25)) #[.int .i64 b0, .int .i64 b1, .int .i64 b2, .int .i64 b3, .int .i64 b4, .int .i64 b5] 25
    rw [show (w.alloc (.cells #[.int .i64 a0, .int .i64 a1, .int .i64 a2, .int .i64 a3, .int .i64 a4, .int .i64 a5] 25)).heap.size = w.heap.size + 1 by simp] at b1_
    have hB : Below w.heap.size w ((w.alloc (.cells #[.int .i64 a0, .int .i64 a1, .int .i64 a2, .int .i64 a3, .int .i64 a4, .int .i64 a5] 25)).alloc (.cells #[.int .i64 b0, .int .i64 b1, .int .i64 b2, .int .i64 b3, .int .i64 b4, .int .i64 b5] 25)) := by (repeat (first | with_reducible exact Below.refl _ _ | with_reducible assumption | refine Below.alloc ?_ (by (try simp); try omega) _ | refine Below.setCell ?_ (by (try simp); try omega) _ | refine below_drewN ?_ _ | refine Below.drew ?_ | (with_reducible refine Below.trans ?_ (Below.mono (by assumption) (by (try simp); try omega)))))
    go_enter Try.func13, Try.ntmps13
    go_wp2_with fail
    generalize ((w.alloc (.cells #[.int .i64 a0, .int .i64 a1, .int .i64 a2, .int .i64 a3, .int .i64 a4, .int .i64 a5] 25)).alloc (.cells #[.int .i64 b0, .int .i64 b1, .int .i64 b2, .int .i64 b3, .int .i64 b4, .int .i64 b5] 25)) = v0 at *
    generalize hn : w.heap.size = n at *
    have c0_0 : v0.cell? ⟨n, 0, none⟩ = some (.int .i64 a0) := b0_.cell 0 _ rfl
    have c0_1 : v0.cell? ⟨n, 1, none⟩ = some (.int .i64 a1) := b0_.cell 1 _ rfl
    have c0_2 : v0.cell? ⟨n, 2, none⟩ = some (.int .i64 a2) := b0_.cell 2 _ rfl
    have c0_3 : v0.cell? ⟨n, 3, none⟩ = some (.int .i64 a3) := b0_.cell 3 _ rfl
    have c0_4 : v0.cell? ⟨n, 4, none⟩ = some (.int .i64 a4) := b0_.cell 4 _ rfl
    have c0_5 : v0.cell? ⟨n, 5, none⟩ = some (.int .i64 a5) := b0_.cell 5 _ rfl
    have k0_ := b0_.lt
    have c1_0 : v0.cell? ⟨n + 1, 0, none⟩ = some (.int .i64 b0) := b1_.cell 0 _ rfl
    have c1_1 : v0.cell? ⟨n + 1, 1, none⟩ = some (.int .i64 b1) := b1_.cell 1 _ rfl
    have c1_2 : v0.cell? ⟨n + 1, 2, none⟩ = some (.int .i64 b2) := b1_.cell 2 _ rfl
    have c1_3 : v0.cell? ⟨n + 1, 3, none⟩ = some (.int .i64 b3) := b1_.cell 3 _ rfl
    have c1_4 : v0.cell? ⟨n + 1, 4, none⟩ = some (.int .i64 b4) := b1_.cell 4 _ rfl
    have c1_5 : v0.cell? ⟨n + 1, 5, none⟩ = some (.int .i64 b5) := b1_.cell 5 _ rfl
    have k1_ := b1_.lt
    skip
    go_at_call 16
    refine (t0 _).mono ?_
    rintro r u1 ⟨rfl, hb⟩
    replace b0_ := b0_.keep hb
    replace b1_ := b1_.keep hb
    replace hB := hB.trans (hb.mono (by have := hB.size; omega))
    clear hb c0_0 c0_1 c0_2 c0_3 c0_4 c0_5 k0_ c1_0 c1_1 c1_2 c1_3 c1_4 c1_5 k1_
    have c0_0 : u1.cell? ⟨n, 0, none⟩ = some (.int .i64 a0) := b0_.cell 0 _ rfl
    have c0_1 : u1.cell? ⟨n, 1, none⟩ = some (.int .i64 a1) := b0_.cell 1 _ rfl
    have c0_2 : u1.cell? ⟨n, 2, none⟩ = some (.int .i64 a2) := b0_.cell 2 _ rfl
    have c0_3 : u1.cell? ⟨n, 3, none⟩ = some (.int .i64 a3) := b0_.cell 3 _ rfl
    have c0_4 : u1.cell? ⟨n, 4, none⟩ = some (.int .i64 a4) := b0_.cell 4 _ rfl
    have c0_5 : u1.cell? ⟨n, 5, none⟩ = some (.int .i64 a5) := b0_.cell 5 _ rfl
    have k0_ := b0_.lt
    have c1_0 : u1.cell? ⟨n + 1, 0, none⟩ = some (.int .i64 b0) := b1_.cell 0 _ rfl
    have c1_1 : u1.cell? ⟨n + 1, 1, none⟩ = some (.int .i64 b1) := b1_.cell 1 _ rfl
    have c1_2 : u1.cell? ⟨n + 1, 2, none⟩ = some (.int .i64 b2) := b1_.cell 2 _ rfl
    have c1_3 : u1.cell? ⟨n + 1, 3, none⟩ = some (.int .i64 b3) := b1_.cell 3 _ rfl
    have c1_4 : u1.cell? ⟨n + 1, 4, none⟩ = some (.int .i64 b4) := b1_.cell 4 _ rfl
    have c1_5 : u1.cell? ⟨n + 1, 5, none⟩ = some (.int .i64 b5) := b1_.cell 5 _ rfl
    have k1_ := b1_.lt
    go_wp2_with fail
    go_at_call 16
    refine (t1 _).mono ?_
    rintro r u2 ⟨rfl, hb⟩
    replace b0_ := b0_.keep hb
    replace b1_ := b1_.keep hb
    replace hB := hB.trans (hb.mono (by have := hB.size; omega))
    clear hb c0_0 c0_1 c0_2 c0_3 c0_4 c0_5 k0_ c1_0 c1_1 c1_2 c1_3 c1_4 c1_5 k1_
    have c0_0 : u2.cell? ⟨n, 0, none⟩ = some (.int .i64 a0) := b0_.cell 0 _ rfl
    have c0_1 : u2.cell? ⟨n, 1, none⟩ = some (.int .i64 a1) := b0_.cell 1 _ rfl
    have c0_2 : u2.cell? ⟨n, 2, none⟩ = some (.int .i64 a2) := b0_.cell 2 _ rfl
    have c0_3 : u2.cell? ⟨n, 3, none⟩ = some (.int .i64 a3) := b0_.cell 3 _ rfl
    have c0_4 : u2.cell? ⟨n, 4, none⟩ = some (.int .i64 a4) := b0_.cell 4 _ rfl
    have c0_5 : u2.cell? ⟨n, 5, none⟩ = some (.int .i64 a5) := b0_.cell 5 _ rfl
    have k0_ := b0_.lt
    have c1_0 : u2.cell? ⟨n + 1, 0, none⟩ = some (.int .i64 b0) := b1_.cell 0 _ rfl
    have c1_1 : u2.cell? ⟨n + 1, 1, none⟩ = some (.int .i64 b1) := b1_.cell 1 _ rfl
    have c1_2 : u2.cell? ⟨n + 1, 2, none⟩ = some (.int .i64 b2) := b1_.cell 2 _ rfl
    have c1_3 : u2.cell? ⟨n + 1, 3, none⟩ = some (.int .i64 b3) := b1_.cell 3 _ rfl
    have c1_4 : u2.cell? ⟨n + 1, 4, none⟩ = some (.int .i64 b4) := b1_.cell 4 _ rfl
    have c1_5 : u2.cell? ⟨n + 1, 5, none⟩ = some (.int .i64 b5) := b1_.cell 5 _ rfl
    have k1_ := b1_.lt
    go_wp2_with fail
    go_at_call 16
    refine (t2 _).mono ?_
    rintro r u3 ⟨rfl, hb⟩
    replace b0_ := b0_.keep hb
    replace b1_ := b1_.keep hb
    replace hB := hB.trans (hb.mono (by have := hB.size; omega))
    clear hb c0_0 c0_1 c0_2 c0_3 c0_4 c0_5 k0_ c1_0 c1_1 c1_2 c1_3 c1_4 c1_5 k1_
    go_wp2
    go_ret
    subst hn
    exact ⟨rfl, hB⟩
  · clear h
    go_enter Try.func13, Try.ntmps13
    go_wp2
    go_ret
    exact ⟨rfl, by (repeat (first | with_reducible exact Below.refl _ _ | with_reducible assumption | refine Below.alloc ?_ (by (try simp); try omega) _ | refine Below.setCell ?_ (by (try simp); try omega) _ | refine below_drewN ?_ _ | refine Below.drew ?_ | (with_reducible refine Below.trans ?_ (Below.mono (by assumption) (by (try simp); try omega)))))⟩
theorem wrapU_inV {n : Int} (h0 : 0 ≤ n) (h1 : n < 18446744073709551616) : IntKind.u64.wrap n = n := by
  have e : IntKind.u64.wrap n = n % 18446744073709551616 := by first | rfl | simp [IntKind.wrap, IntKind.bits, IntKind.signed]
  rw [e]; exact Int.emod_eq_of_lt h0 h1
theorem part_any (a b v x : Int) (k : ckS a b = 0) (v0 : 0 ≤ v) (x0 : 0 ≤ x) :
    ∃ p q : Int, Wi a b p q ∧ ∀ w, Calls Try.prog 31 #[.agg #[.int .i64 a, .int .i64 b], .int .u64 v, .int .u64 x] w fun r w' => r = .returned (.agg #[.int .i64 p, .int .i64 q]) ∧ Below w.heap.size w w' := by
  have va := valS k
  obtain ⟨s, hs⟩ : ∃ s, b - a + 1 = s := ⟨_, rfl⟩
  have s0 : 1 ≤ s := by omega
  have s1 : s ≤ 9007199254740993 := by omega
  have r0 := Int.emod_nonneg v (show s ≠ 0 by omega)
  have r1 := Int.emod_lt_of_pos v (show 0 < s by omega)
  have y0 := Int.emod_nonneg x (show s ≠ 0 by omega)
  have y1 := Int.emod_lt_of_pos x (show 0 < s by omega)
  have e4 : v.tmod s = v % s := Int.tmod_eq_emod_of_nonneg v0
  have e4' : x.tmod s = x % s := Int.tmod_eq_emod_of_nonneg x0
  generalize v % s = c at *
  generalize x % s = d at *
  refine ⟨min (a + c) (a + d), max (a + c) (a + d), ⟨k, by omega, by omega, by omega⟩, fun w => ?_⟩
  have hne : (s == 0) = false := by simp; omega
  obtain ⟨t, ht⟩ : ∃ t, b - a = t := ⟨_, rfl⟩
  have e1 : IntKind.i64.wrap (b - a) = t := by rw [ht]; exact IntWalk.i64_in _ (by omega)
  have e2 : IntKind.i64.wrap (t + 1) = s := by rw [← ht, hs]; exact IntWalk.i64_in _ (by omega)
  have e3 : IntKind.u64.wrap s = s := wrapU_inV (by omega) (by omega)
  have e5 : IntKind.i64.wrap c = c := IntWalk.i64_in _ (by omega)
  have e5' : IntKind.i64.wrap d = d := IntWalk.i64_in _ (by omega)
  have e6 : IntKind.i64.wrap (a + c) = a + c := IntWalk.i64_in _ (by omega)
  have e6' : IntKind.i64.wrap (a + d) = a + d := IntWalk.i64_in _ (by omega)
  clear hs ht r0 r1 y0 y1 va k
  go_enter Try.func31, Try.ntmps31
  go_wp2
  go_quiet (fail)
  clear e1 e2 e3 e4 e4' e5 e5' e6 e6' hne
  go_wp2
  refine bodyPost_ret (v := .agg #[.int .i64 (min (a + c) (a + d)), .int .i64 (max (a + c) (a + d))]) (by simp [results, Try.results31, go_sem]) rfl ⟨rfl, by (repeat (first | with_reducible exact Below.refl _ _ | with_reducible assumption | refine Below.alloc ?_ (by (try simp); try omega) _ | refine Below.setCell ?_ (by (try simp); try omega) _ | refine below_drewN ?_ _ | refine Below.drew ?_ | (with_reducible refine Below.trans ?_ (Below.mono (by assumption) (by (try simp); try omega)))))⟩
set_option maxRecDepth 100000 in
set_option maxHeartbeats 4000000 in
theorem pof_any (a0 a1 a2 a3 a4 a5 m0 m1 m2 m3 m4 m5 : Int) (k : ckV a0 a1 a2 a3 a4 a5 = 0) (m0l : 0 ≤ m0) (m1l : 0 ≤ m1) (m2l : 0 ≤ m2) (m3l : 0 ≤ m3) (m4l : 0 ≤ m4) (m5l : 0 ≤ m5) :
    ∃ p0 p1 p2 p3 p4 p5 : Int, WiV a0 a1 a2 a3 a4 a5 p0 p1 p2 p3 p4 p5 ∧ ∀ w, Calls Try.prog 9 #[.agg #[.int .u64 m0, .int .u64 m1, .int .u64 m2, .int .u64 m3, .int .u64 m4, .int .u64 m5], .agg #[.int .i64 a0, .int .i64 a1, .int .i64 a2, .int .i64 a3, .int .i64 a4, .int .i64 a5]] w fun r w' => r = .returned (.agg #[.int .i64 p0, .int .i64 p1, .int .i64 p2, .int .i64 p3, .int .i64 p4, .int .i64 p5]) ∧ Below w.heap.size w w' := by
  obtain ⟨k0, k1, k2⟩ := ckV_ok k
  obtain ⟨p0, p1, h0, t0⟩ := part_any a0 a1 m0 m1 k0 m0l m1l
  obtain ⟨p2, p3, h1, t1⟩ := part_any a2 a3 m2 m3 k1 m2l m3l
  obtain ⟨p4, p5, h2, t2⟩ := part_any a4 a5 m4 m5 k2 m4l m5l
  refine ⟨p0, p1, p2, p3, p4, p5, ⟨h0, h1, h2⟩, fun w => ?_⟩
  clear h0 h1 h2 k0 k1 k2 k m0l m1l m2l m3l m4l m5l
  have bM := ((Bn.new w #[.int .u64 m0, .int .u64 m1, .int .u64 m2, .int .u64 m3, .int .u64 m4, .int .u64 m5] 36).alloc (.cells #[.int .i64 a0, .int .i64 a1, .int .i64 a2, .int .i64 a3, .int .i64 a4, .int .i64 a5] 25)).alloc (.cells #[.int .i64 0, .int .i64 0, .int .i64 0, .int .i64 0, .int .i64 0, .int .i64 0] 25)
  have bA := (Bn.new (w.alloc (.cells #[.int .u64 m0, .int .u64 m1, .int .u64 m2, .int .u64 m3, .int .u64 m4, .int .u64 m5] 36)) #[.int .i64 a0, .int .i64 a1, .int .i64 a2, .int .i64 a3, .int .i64 a4, .int .i64 a5] 25).alloc (.cells #[.int .i64 0, .int .i64 0, .int .i64 0, .int .i64 0, .int .i64 0, .int .i64 0] 25)
  rw [show (w.alloc (.cells #[.int .u64 m0, .int .u64 m1, .int .u64 m2, .int .u64 m3, .int .u64 m4, .int .u64 m5] 36)).heap.size = w.heap.size + 1 by simp] at bA
  have bZ := Bn.new ((w.alloc (.cells #[.int .u64 m0, .int .u64 m1, .int .u64 m2, .int .u64 m3, .int .u64 m4, .int .u64 m5] 36)).alloc (.cells #[.int .i64 a0, .int .i64 a1, .int .i64 a2, .int .i64 a3, .int .i64 a4, .int .i64 a5] 25)) #[.int .i64 0, .int .i64 0, .int .i64 0, .int .i64 0, .int .i64 0, .int .i64 0] 25
  rw [show ((w.alloc (.cells #[.int .u64 m0, .int .u64 m1, .int .u64 m2, .int .u64 m3, .int .u64 m4, .int .u64 m5] 36)).alloc (.cells #[.int .i64 a0, .int .i64 a1, .int .i64 a2, .int .i64 a3, .int .i64 a4, .int .i64 a5] 25)).heap.size = w.heap.size + 2 by simp] at bZ
  have hB : Below w.heap.size w (((w.alloc (.cells #[.int .u64 m0, .int .u64 m1, .int .u64 m2, .int .u64 m3, .int .u64 m4, .int .u64 m5] 36)).alloc (.cells #[.int .i64 a0, .int .i64 a1, .int .i64 a2, .int .i64 a3, .int .i64 a4, .int .i64 a5] 25)).alloc (.cells #[.int .i64 0, .int .i64 0, .int .i64 0, .int .i64 0, .int .i64 0, .int .i64 0] 25)) := by (repeat (first | with_reducible exact Below.refl _ _ | with_reducible assumption | refine Below.alloc ?_ (by (try simp); try omega) _ | refine Below.setCell ?_ (by (try simp); try omega) _ | refine below_drewN ?_ _ | refine Below.drew ?_ | (with_reducible refine Below.trans ?_ (Below.mono (by assumption) (by (try simp); try omega)))))
  go_enter Try.func9, Try.ntmps9
  go_wp2
  generalize (((w.alloc (.cells #[.int .u64 m0, .int .u64 m1, .int .u64 m2, .int .u64 m3, .int .u64 m4, .int .u64 m5] 36)).alloc (.cells #[.int .i64 a0, .int .i64 a1, .int .i64 a2, .int .i64 a3, .int .i64 a4, .int .i64 a5] 25)).alloc (.cells #[.int .i64 0, .int .i64 0, .int .i64 0, .int .i64 0, .int .i64 0, .int .i64 0] 25)) = v0 at *
  generalize hn : w.heap.size = n at *
  refine wp_loop_rounds 4 ?_
  rw [rounds_succ]
  have m0c : v0.cell? ⟨n, 0, none⟩ = some (.int .u64 m0) := bM.cell 0 _ rfl
  have m1c : v0.cell? ⟨n, 1, none⟩ = some (.int .u64 m1) := bM.cell 1 _ rfl
  have c0 : v0.cell? ⟨n + 1, 0, none⟩ = some (.int .i64 a0) := bA.cell 0 _ rfl
  have c1 : v0.cell? ⟨n + 1, 1, none⟩ = some (.int .i64 a1) := bA.cell 1 _ rfl
  have z0 : v0.frozen? ⟨n + 1, 0, none⟩ = false := bA.f 0
  have z1 : v0.frozen? ⟨n + 1, 1, none⟩ = false := bA.f 1
  have lA := bA.lt
  go_upto_block 1 with fail
  go_cut [5] from 8 to 22 (fun v5 wx => Below n w wx ∧ Bn wx n #[.int .u64 m0, .int .u64 m1, .int .u64 m2, .int .u64 m3, .int .u64 m4, .int .u64 m5] 36 ∧ Bn wx (n + 1) #[.int .i64 p0, .int .i64 p1, .int .i64 a2, .int .i64 a3, .int .i64 a4, .int .i64 a5] 25 ∧ Bn wx (n + 2) #[.int .i64 0, .int .i64 0, .int .i64 0, .int .i64 0, .int .i64 0, .int .i64 0] 25)
  case first =>
    go_wp2_with fail
    go_region_with (go_at_call 31; (with_reducible refine (t0 _).mono ?_); rintro rr uz ⟨rfl, hb⟩; (with_reducible (first | (replace hb := vUndrew hb) | skip)); replace m0c := bkeep hb m0c; replace m1c := bkeep hb m1c; replace c0 := bkeep hb c0; replace c1 := bkeep hb c1; replace bM := bM.keep hb; replace bA := bA.keep hb; replace bZ := bZ.keep hb; have z0 := bA.f 0; have z1 := bA.f 1; have lA := bA.lt; replace hB := hB.trans (hb.mono (by have := hB.size; omega)); clear hb)
    all_goals (go_wp2_with fail; go_meet)
    all_goals exact ⟨(by first | exact ((hB.setCell (Nat.le_add_right n 1) _).setCell (Nat.le_add_right n 1) _) | exact ((hB.setCell (Nat.le_add_right n 1) _).setCell (Nat.le_add_right n 1) _).drew), (by first | exact (bM.far (by omega) _ _).far (by omega) _ _ | exact ((bM.far (by omega) _ _).far (by omega) _ _).drewI), (by first | exact (bA.put 0 _ _ rfl).put 1 _ #[.int .i64 p0, .int .i64 p1, .int .i64 a2, .int .i64 a3, .int .i64 a4, .int .i64 a5] rfl | exact ((bA.put 0 _ _ rfl).put 1 _ #[.int .i64 p0, .int .i64 p1, .int .i64 a2, .int .i64 a3, .int .i64 a4, .int .i64 a5] rfl).drewI), (by first | exact (bZ.far (by omega) _ _).far (by omega) _ _ | exact ((bZ.far (by omega) _ _).far (by omega) _ _).drewI)⟩
  case rest =>
  obtain ⟨hB', bM', bA', bZ'⟩ := hcut
  clear hB bM bA bZ lA m0c m1c c0 c1 z0 z1
  have hB := hB'
  have bM := bM'
  have bA := bA'
  have bZ := bZ'
  clear hB' bM' bA' bZ'
  generalize wc = wc0 at *
  go_wp2_with fail
  rw [rounds_succ]
  have m2c : wc0.cell? ⟨n, 2, none⟩ = some (.int .u64 m2) := bM.cell 2 _ rfl
  have m3c : wc0.cell? ⟨n, 3, none⟩ = some (.int .u64 m3) := bM.cell 3 _ rfl
  have c2 : wc0.cell? ⟨n + 1, 2, none⟩ = some (.int .i64 a2) := bA.cell 2 _ rfl
  have c3 : wc0.cell? ⟨n + 1, 3, none⟩ = some (.int .i64 a3) := bA.cell 3 _ rfl
  have z2 : wc0.frozen? ⟨n + 1, 2, none⟩ = false := bA.f 2
  have z3 : wc0.frozen? ⟨n + 1, 3, none⟩ = false := bA.f 3
  have lA := bA.lt
  go_upto_block 1 with fail
  go_cut [5] from 8 to 22 (fun v5 wx => Below n w wx ∧ Bn wx n #[.int .u64 m0, .int .u64 m1, .int .u64 m2, .int .u64 m3, .int .u64 m4, .int .u64 m5] 36 ∧ Bn wx (n + 1) #[.int .i64 p0, .int .i64 p1, .int .i64 p2, .int .i64 p3, .int .i64 a4, .int .i64 a5] 25 ∧ Bn wx (n + 2) #[.int .i64 0, .int .i64 0, .int .i64 0, .int .i64 0, .int .i64 0, .int .i64 0] 25)
  case first =>
    go_wp2_with fail
    go_region_with (go_at_call 31; (with_reducible refine (t1 _).mono ?_); rintro rr uz ⟨rfl, hb⟩; (with_reducible (first | (replace hb := vUndrew hb) | skip)); replace m2c := bkeep hb m2c; replace m3c := bkeep hb m3c; replace c2 := bkeep hb c2; replace c3 := bkeep hb c3; replace bM := bM.keep hb; replace bA := bA.keep hb; replace bZ := bZ.keep hb; have z2 := bA.f 2; have z3 := bA.f 3; have lA := bA.lt; replace hB := hB.trans (hb.mono (by have := hB.size; omega)); clear hb)
    all_goals (go_wp2_with fail; go_meet)
    all_goals exact ⟨(by first | exact ((hB.setCell (Nat.le_add_right n 1) _).setCell (Nat.le_add_right n 1) _) | exact ((hB.setCell (Nat.le_add_right n 1) _).setCell (Nat.le_add_right n 1) _).drew), (by first | exact (bM.far (by omega) _ _).far (by omega) _ _ | exact ((bM.far (by omega) _ _).far (by omega) _ _).drewI), (by first | exact (bA.put 2 _ _ rfl).put 3 _ #[.int .i64 p0, .int .i64 p1, .int .i64 p2, .int .i64 p3, .int .i64 a4, .int .i64 a5] rfl | exact ((bA.put 2 _ _ rfl).put 3 _ #[.int .i64 p0, .int .i64 p1, .int .i64 p2, .int .i64 p3, .int .i64 a4, .int .i64 a5] rfl).drewI), (by first | exact (bZ.far (by omega) _ _).far (by omega) _ _ | exact ((bZ.far (by omega) _ _).far (by omega) _ _).drewI)⟩
  case rest =>
  obtain ⟨hB', bM', bA', bZ'⟩ := hcut
  clear hB bM bA bZ lA m2c m3c c2 c3 z2 z3
  have hB := hB'
  have bM := bM'
  have bA := bA'
  have bZ := bZ'
  clear hB' bM' bA' bZ'
  generalize wc = wc1 at *
  go_wp2_with fail
  rw [rounds_succ]
  have m4c : wc1.cell? ⟨n, 4, none⟩ = some (.int .u64 m4) := bM.cell 4 _ rfl
  have m5c : wc1.cell? ⟨n, 5, none⟩ = some (.int .u64 m5) := bM.cell 5 _ rfl
  have c4 : wc1.cell? ⟨n + 1, 4, none⟩ = some (.int .i64 a4) := bA.cell 4 _ rfl
  have c5 : wc1.cell? ⟨n + 1, 5, none⟩ = some (.int .i64 a5) := bA.cell 5 _ rfl
  have z4 : wc1.frozen? ⟨n + 1, 4, none⟩ = false := bA.f 4
  have z5 : wc1.frozen? ⟨n + 1, 5, none⟩ = false := bA.f 5
  have lA := bA.lt
  go_upto_block 1 with fail
  go_cut [5] from 8 to 22 (fun v5 wx => Below n w wx ∧ Bn wx n #[.int .u64 m0, .int .u64 m1, .int .u64 m2, .int .u64 m3, .int .u64 m4, .int .u64 m5] 36 ∧ Bn wx (n + 1) #[.int .i64 p0, .int .i64 p1, .int .i64 p2, .int .i64 p3, .int .i64 p4, .int .i64 p5] 25 ∧ Bn wx (n + 2) #[.int .i64 0, .int .i64 0, .int .i64 0, .int .i64 0, .int .i64 0, .int .i64 0] 25)
  case first =>
    go_wp2_with fail
    go_region_with (go_at_call 31; (with_reducible refine (t2 _).mono ?_); rintro rr uz ⟨rfl, hb⟩; (with_reducible (first | (replace hb := vUndrew hb) | skip)); replace m4c := bkeep hb m4c; replace m5c := bkeep hb m5c; replace c4 := bkeep hb c4; replace c5 := bkeep hb c5; replace bM := bM.keep hb; replace bA := bA.keep hb; replace bZ := bZ.keep hb; have z4 := bA.f 4; have z5 := bA.f 5; have lA := bA.lt; replace hB := hB.trans (hb.mono (by have := hB.size; omega)); clear hb)
    all_goals (go_wp2_with fail; go_meet)
    all_goals exact ⟨(by first | exact ((hB.setCell (Nat.le_add_right n 1) _).setCell (Nat.le_add_right n 1) _) | exact ((hB.setCell (Nat.le_add_right n 1) _).setCell (Nat.le_add_right n 1) _).drew), (by first | exact (bM.far (by omega) _ _).far (by omega) _ _ | exact ((bM.far (by omega) _ _).far (by omega) _ _).drewI), (by first | exact (bA.put 4 _ _ rfl).put 5 _ #[.int .i64 p0, .int .i64 p1, .int .i64 p2, .int .i64 p3, .int .i64 p4, .int .i64 p5] rfl | exact ((bA.put 4 _ _ rfl).put 5 _ #[.int .i64 p0, .int .i64 p1, .int .i64 p2, .int .i64 p3, .int .i64 p4, .int .i64 p5] rfl).drewI), (by first | exact (bZ.far (by omega) _ _).far (by omega) _ _ | exact ((bZ.far (by omega) _ _).far (by omega) _ _).drewI)⟩
  case rest =>
  obtain ⟨hB', bM', bA', bZ'⟩ := hcut
  clear hB bM bA bZ lA m4c m5c c4 c5 z4 z5
  have hB := hB'
  have bM := bM'
  have bA := bA'
  have bZ := bZ'
  clear hB' bM' bA' bZ'
  generalize wc = wc2 at *
  go_wp2_with fail
  rw [rounds_succ]
  have cA0 : wc2.cell? ⟨n + 1, 0, none⟩ = some (.int .i64 p0) := bA.cell 0 _ rfl
  have cA1 : wc2.cell? ⟨n + 1, 1, none⟩ = some (.int .i64 p1) := bA.cell 1 _ rfl
  have cA2 : wc2.cell? ⟨n + 1, 2, none⟩ = some (.int .i64 p2) := bA.cell 2 _ rfl
  have cA3 : wc2.cell? ⟨n + 1, 3, none⟩ = some (.int .i64 p3) := bA.cell 3 _ rfl
  have cA4 : wc2.cell? ⟨n + 1, 4, none⟩ = some (.int .i64 p4) := bA.cell 4 _ rfl
  have cA5 : wc2.cell? ⟨n + 1, 5, none⟩ = some (.int .i64 p5) := bA.cell 5 _ rfl
  have kA := bA.lt
  have cZ0 : wc2.cell? ⟨n + 2, 0, none⟩ = some (.int .i64 0) := bZ.cell 0 _ rfl
  have cZ1 : wc2.cell? ⟨n + 2, 1, none⟩ = some (.int .i64 0) := bZ.cell 1 _ rfl
  have cZ2 : wc2.cell? ⟨n + 2, 2, none⟩ = some (.int .i64 0) := bZ.cell 2 _ rfl
  have cZ3 : wc2.cell? ⟨n + 2, 3, none⟩ = some (.int .i64 0) := bZ.cell 3 _ rfl
  have cZ4 : wc2.cell? ⟨n + 2, 4, none⟩ = some (.int .i64 0) := bZ.cell 4 _ rfl
  have cZ5 : wc2.cell? ⟨n + 2, 5, none⟩ = some (.int .i64 0) := bZ.cell 5 _ rfl
  have kZ := bZ.lt
  have zZ0 : wc2.frozen? ⟨n + 2, 0, none⟩ = false := bZ.f 0
  have zZ1 : wc2.frozen? ⟨n + 2, 1, none⟩ = false := bZ.f 1
  have zZ2 : wc2.frozen? ⟨n + 2, 2, none⟩ = false := bZ.f 2
  have zZ3 : wc2.frozen? ⟨n + 2, 3, none⟩ = false := bZ.f 3
  have zZ4 : wc2.frozen? ⟨n + 2, 4, none⟩ = false := bZ.f 4
  have zZ5 : wc2.frozen? ⟨n + 2, 5, none⟩ = false := bZ.f 5
  go_wp2
  refine bodyPost_ret (v := .agg #[.int .i64 p0, .int .i64 p1, .int .i64 p2, .int .i64 p3, .int .i64 p4, .int .i64 p5]) (by simp [results, Try.results9, go_sem, cZ0, zZ0, cZ1, zZ1, cZ2, zZ2, cZ3, zZ3, cZ4, zZ4, cZ5, zZ5, kZ]) rfl ⟨rfl, ?_⟩
  subst hn
  exact below6 (g := w.heap.size + 1 + 1) hB (by omega) _ _ _ _ _ _
end Go.Proofs.Ytnfapdmbkpkkdaa
