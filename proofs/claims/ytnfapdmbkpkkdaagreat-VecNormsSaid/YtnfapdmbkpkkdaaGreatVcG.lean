/-
  The helpers of the statements of layer 6; works answers true.
-/
import Derived.Test.YtnfapdmbkpkkdaaGreatVcF
namespace Go.Proofs.YtnfapdmbkpkkdaaGreat
open Go.RowKit

theorem point_any (x a : Int) (w : World) (h0 : -4194304 ≤ x) (h1 : x ≤ 4194304) (ha : a = x * 4294967296) :
    Calls Tryz.prog 29 #[.int .i64 x] w fun r w' => r = .returned (.agg #[.int .i64 a, .int .i64 a]) ∧ Below w.heap.size w w' := by
  subst ha
  go_enter Tryz.func29, Tryz.ntmps29
  go_wp2
  refine bodyPost_ret (v := .agg #[.int .i64 (x * 4294967296), .int .i64 (x * 4294967296)]) (by simp [results, Tryz.results29, go_sem]) rfl ⟨rfl, by (repeat (first | with_reducible exact Below.refl _ _ | with_reducible assumption | refine Below.alloc ?_ (by (try simp); try omega) _ | refine Below.setCell ?_ (by (try simp); try omega) _ | refine below_drewN ?_ _ | refine Below.drew ?_ | (with_reducible refine Below.trans ?_ (Below.mono (by assumption) (by (try simp); try omega)))))⟩
theorem of_any (x y z a b c : Int) (w : World) (x0 : -4194304 ≤ x) (x1 : x ≤ 4194304) (y0 : -4194304 ≤ y) (y1 : y ≤ 4194304) (z0 : -4194304 ≤ z) (z1 : z ≤ 4194304) (ha : a = x * 4294967296) (hb : b = y * 4294967296) (hc : c = z * 4294967296) :
    Calls Tryz.prog 28 #[.int .i64 x, .int .i64 y, .int .i64 z] w fun r w' => r = .returned (.agg #[.int .i64 a, .int .i64 a, .int .i64 b, .int .i64 b, .int .i64 c, .int .i64 c]) ∧ Below w.heap.size w w' := by
  have hx := fun w => point_any x a w x0 x1 ha
  have hy := fun w => point_any y b w y0 y1 hb
  have hz := fun w => point_any z c w z0 z1 hc
  clear ha hb hc x0 x1 y0 y1 z0 z1
  have b0 := Bn.new w #[.int .i64 0, .int .i64 0, .int .i64 0, .int .i64 0, .int .i64 0, .int .i64 0] 25
  have hB : Below w.heap.size w (w.alloc (.cells #[.int .i64 0, .int .i64 0, .int .i64 0, .int .i64 0, .int .i64 0, .int .i64 0] 25)) := by (repeat (first | with_reducible exact Below.refl _ _ | with_reducible assumption | refine Below.alloc ?_ (by (try simp); try omega) _ | refine Below.setCell ?_ (by (try simp); try omega) _ | refine below_drewN ?_ _ | refine Below.drew ?_ | (with_reducible refine Below.trans ?_ (Below.mono (by assumption) (by (try simp); try omega)))))
  go_enter Tryz.func28, Tryz.ntmps28
  go_wp2_with fail
  go_at_call 29
  refine (hx _).mono ?_
  rintro r uhx ⟨rfl, hb⟩
  replace b0 := b0.keep hb
  replace hB := hB.trans (hb.mono hB.size)
  clear hb
  go_wp2_with fail
  go_at_call 29
  refine (hy _).mono ?_
  rintro r uhy ⟨rfl, hb⟩
  replace b0 := b0.keep hb
  replace hB := hB.trans (hb.mono hB.size)
  clear hb
  go_wp2_with fail
  go_at_call 29
  refine (hz _).mono ?_
  rintro r uhz ⟨rfl, hb⟩
  replace b0 := b0.keep hb
  replace hB := hB.trans (hb.mono hB.size)
  clear hb
  have y0 := b0.cell 0 _ rfl
  have y1 := b0.cell 1 _ rfl
  have y2 := b0.cell 2 _ rfl
  have y3 := b0.cell 3 _ rfl
  have y4 := b0.cell 4 _ rfl
  have y5 := b0.cell 5 _ rfl
  have z0 := b0.f 0
  have z1 := b0.f 1
  have z2 := b0.f 2
  have z3 := b0.f 3
  have z4 := b0.f 4
  have z5 := b0.f 5
  have lz := b0.lt
  go_wp2
  refine bodyPost_ret (v := .agg #[.int .i64 a, .int .i64 a, .int .i64 b, .int .i64 b, .int .i64 c, .int .i64 c]) (by simp [results, Tryz.results28, go_sem, y0, z0, y1, z1, y2, z2, y3, z3, y4, z4, y5, z5, lz]) rfl ⟨rfl, below6 hB (Nat.le_refl _) _ _ _ _ _ _⟩
theorem is_any (a0 a1 a2 a3 a4 a5 : Int) (w : World) :
    Calls Tryz.prog 27 #[.agg #[.int .i64 a0, .int .i64 a1, .int .i64 a2, .int .i64 a3, .int .i64 a4, .int .i64 a5]] w fun r w' => ∃ bx : Nat, r = .returned (.func (.func 62) #[] #[.pointer (some ⟨bx, 0, none⟩)]) ∧ Bn w' bx #[.int .i64 a0, .int .i64 a1, .int .i64 a2, .int .i64 a3, .int .i64 a4, .int .i64 a5] 25 ∧ Below w.heap.size w w' := by
  have hmf : ∀ (fn : Fn) (first cap : Array Value) (w : World), (Instr.makeFunc fn first cap).run Tryz.prog w = .ok (.func fn first cap) w := fun _ _ _ _ => rfl
  have h : Calls Tryz.prog 27 #[.agg #[.int .i64 a0, .int .i64 a1, .int .i64 a2, .int .i64 a3, .int .i64 a4, .int .i64 a5]] w fun r w' => r = .returned (.func (.func 62) #[] #[.pointer (some ⟨w.heap.size, 0, none⟩)]) ∧ w' = w.alloc (.cells #[.int .i64 a0, .int .i64 a1, .int .i64 a2, .int .i64 a3, .int .i64 a4, .int .i64 a5] 25) := by
    go_enter Tryz.func27, Tryz.ntmps27
    go_wp2
    go_ret
    exact ⟨rfl, rfl⟩
  refine h.mono ?_
  rintro r w' ⟨rfl, rfl⟩
  exact ⟨_, rfl, Bn.new w _ _, by (repeat (first | with_reducible exact Below.refl _ _ | with_reducible assumption | refine Below.alloc ?_ (by (try simp); try omega) _ | refine Below.setCell ?_ (by (try simp); try omega) _ | refine below_drewN ?_ _ | refine Below.drew ?_ | (with_reducible refine Below.trans ?_ (Below.mono (by assumption) (by (try simp); try omega)))))⟩
theorem says_any (a0 a1 : Int) (w : World) :
    Calls Tryz.prog 30 #[.agg #[.int .i64 a0, .int .i64 a1]] w fun r w' => ∃ bx : Nat, r = .returned (.func (.func 63) #[] #[.pointer (some ⟨bx, 0, none⟩)]) ∧ Bn w' bx #[.int .i64 a0, .int .i64 a1] 23 ∧ Below w.heap.size w w' := by
  have hmf : ∀ (fn : Fn) (first cap : Array Value) (w : World), (Instr.makeFunc fn first cap).run Tryz.prog w = .ok (.func fn first cap) w := fun _ _ _ _ => rfl
  have h : Calls Tryz.prog 30 #[.agg #[.int .i64 a0, .int .i64 a1]] w fun r w' => r = .returned (.func (.func 63) #[] #[.pointer (some ⟨w.heap.size, 0, none⟩)]) ∧ w' = w.alloc (.cells #[.int .i64 a0, .int .i64 a1] 23) := by
    go_enter Tryz.func30, Tryz.ntmps30
    go_wp2
    go_ret
    exact ⟨rfl, rfl⟩
  refine h.mono ?_
  rintro r w' ⟨rfl, rfl⟩
  exact ⟨_, rfl, Bn.new w _ _, by (repeat (first | with_reducible exact Below.refl _ _ | with_reducible assumption | refine Below.alloc ?_ (by (try simp); try omega) _ | refine Below.setCell ?_ (by (try simp); try omega) _ | refine below_drewN ?_ _ | refine Below.drew ?_ | (with_reducible refine Below.trans ?_ (Below.mono (by assumption) (by (try simp); try omega)))))⟩
theorem fails_any (x : Int) (w : World) :
    Calls Tryz.prog 31 #[.int .i64 x] w fun r w' => ∃ bx : Nat, r = .returned (.func (.func 64) #[] #[.pointer (some ⟨bx, 0, none⟩)]) ∧ Bn w' bx #[.int .i64 x] 37 ∧ Below w.heap.size w w' := by
  have hmf : ∀ (fn : Fn) (first cap : Array Value) (w : World), (Instr.makeFunc fn first cap).run Tryz.prog w = .ok (.func fn first cap) w := fun _ _ _ _ => rfl
  have h : Calls Tryz.prog 31 #[.int .i64 x] w fun r w' => r = .returned (.func (.func 64) #[] #[.pointer (some ⟨w.heap.size, 0, none⟩)]) ∧ w' = w.alloc (.cells #[.int .i64 x] 37) := by
    go_enter Tryz.func31, Tryz.ntmps31
    go_wp2
    go_ret
    exact ⟨rfl, rfl⟩
  refine h.mono ?_
  rintro r w' ⟨rfl, rfl⟩
  exact ⟨_, rfl, Bn.new w _ _, by (repeat (first | with_reducible exact Below.refl _ _ | with_reducible assumption | refine Below.alloc ?_ (by (try simp); try omega) _ | refine Below.setCell ?_ (by (try simp); try omega) _ | refine below_drewN ?_ _ | refine Below.drew ?_ | (with_reducible refine Below.trans ?_ (Below.mono (by assumption) (by (try simp); try omega)))))⟩
theorem refuses_any (x : Int) (w : World) :
    Calls Tryz.prog 32 #[.int .i64 x] w fun r w' => ∃ bx : Nat, r = .returned (.func (.func 65) #[] #[.pointer (some ⟨bx, 0, none⟩)]) ∧ Bn w' bx #[.int .i64 x] 37 ∧ Below w.heap.size w w' := by
  have hmf : ∀ (fn : Fn) (first cap : Array Value) (w : World), (Instr.makeFunc fn first cap).run Tryz.prog w = .ok (.func fn first cap) w := fun _ _ _ _ => rfl
  have h : Calls Tryz.prog 32 #[.int .i64 x] w fun r w' => r = .returned (.func (.func 65) #[] #[.pointer (some ⟨w.heap.size, 0, none⟩)]) ∧ w' = w.alloc (.cells #[.int .i64 x] 37) := by
    go_enter Tryz.func32, Tryz.ntmps32
    go_wp2
    go_ret
    exact ⟨rfl, rfl⟩
  refine h.mono ?_
  rintro r w' ⟨rfl, rfl⟩
  exact ⟨_, rfl, Bn.new w _ _, by (repeat (first | with_reducible exact Below.refl _ _ | with_reducible assumption | refine Below.alloc ?_ (by (try simp); try omega) _ | refine Below.setCell ?_ (by (try simp); try omega) _ | refine below_drewN ?_ _ | refine Below.drew ?_ | (with_reducible refine Below.trans ?_ (Below.mono (by assumption) (by (try simp); try omega)))))⟩
set_option maxRecDepth 100000 in
theorem is1_true (a0 a1 a2 a3 a4 a5 : Int) (bx : Nat) (w : World) (h : Bn w bx #[.int .i64 a0, .int .i64 a1, .int .i64 a2, .int .i64 a3, .int .i64 a4, .int .i64 a5] 25) :
    Calls Tryz.prog 62 #[.agg #[.int .i64 a0, .int .i64 a1, .int .i64 a2, .int .i64 a3, .int .i64 a4, .int .i64 a5], .int .i64 0, .pointer (some ⟨bx, 0, none⟩)] w fun r w' => r = .returned (.bool true) ∧ Below w.heap.size w w' := by
  have he : ∀ w, (Op.equalIn 10000 25 (.agg #[.int .i64 a0, .int .i64 a1, .int .i64 a2, .int .i64 a3, .int .i64 a4, .int .i64 a5]) (.agg #[.int .i64 a0, .int .i64 a1, .int .i64 a2, .int .i64 a3, .int .i64 a4, .int .i64 a5])).run Tryz.prog w = .ok true w := fun w => by
    have := eqVec_run 9997 a0 a1 a2 a3 a4 a5 a0 a1 a2 a3 a4 a5 w
    simpa using this
  have c0 := h.cell 0 _ rfl
  have c1 := h.cell 1 _ rfl
  have c2 := h.cell 2 _ rfl
  have c3 := h.cell 3 _ rfl
  have c4 := h.cell 4 _ rfl
  have c5 := h.cell 5 _ rfl
  have l0 := h.lt
  clear h
  go_enter Tryz.func62, Tryz.ntmps62
  go_wp2
  go_ret
  exact ⟨rfl, by (repeat (first | with_reducible exact Below.refl _ _ | with_reducible assumption | refine Below.alloc ?_ (by (try simp); try omega) _ | refine Below.setCell ?_ (by (try simp); try omega) _ | refine below_drewN ?_ _ | refine Below.drew ?_ | (with_reducible refine Below.trans ?_ (Below.mono (by assumption) (by (try simp); try omega)))))⟩
set_option maxRecDepth 100000 in
theorem fails1_true (x : Int) (bx : Nat) (w : World) (h : Bn w bx #[.int .i64 x] 37) :
    Calls Tryz.prog 64 #[.agg #[.int .i64 0, .int .i64 0, .int .i64 0, .int .i64 0, .int .i64 0, .int .i64 0], .int .i64 x, .pointer (some ⟨bx, 0, none⟩)] w fun r w' => r = .returned (.bool true) ∧ Below w.heap.size w w' := by
  have he : ∀ w, (Op.equalIn 10000 25 (.agg #[.int .i64 0, .int .i64 0, .int .i64 0, .int .i64 0, .int .i64 0, .int .i64 0]) (.agg #[.int .i64 0, .int .i64 0, .int .i64 0, .int .i64 0, .int .i64 0, .int .i64 0])).run Tryz.prog w = .ok true w := fun w => by
    have := eqVec_run 9997 0 0 0 0 0 0 0 0 0 0 0 0 w
    simpa using this
  have c0 := h.cell 0 _ rfl
  have l0 := h.lt
  clear h
  go_enter Tryz.func64, Tryz.ntmps64
  go_wp2
  go_ret
  exact ⟨rfl, by (repeat (first | with_reducible exact Below.refl _ _ | with_reducible assumption | refine Below.alloc ?_ (by (try simp); try omega) _ | refine Below.setCell ?_ (by (try simp); try omega) _ | refine below_drewN ?_ _ | refine Below.drew ?_ | (with_reducible refine Below.trans ?_ (Below.mono (by assumption) (by (try simp); try omega)))))⟩
set_option maxRecDepth 100000 in
theorem says1_true (a0 a1 : Int) (bx : Nat) (w : World) (h : Bn w bx #[.int .i64 a0, .int .i64 a1] 23) :
    Calls Tryz.prog 63 #[.agg #[.int .i64 a0, .int .i64 a1], .int .i64 0, .pointer (some ⟨bx, 0, none⟩)] w fun r w' => r = .returned (.bool true) ∧ Below w.heap.size w w' := by
  have c0 := h.cell 0 _ rfl
  have c1 := h.cell 1 _ rfl
  have l0 := h.lt
  clear h
  go_enter Tryz.func63, Tryz.ntmps63
  go_wp2
  go_ret
  exact ⟨rfl, by (repeat (first | with_reducible exact Below.refl _ _ | with_reducible assumption | refine Below.alloc ?_ (by (try simp); try omega) _ | refine Below.setCell ?_ (by (try simp); try omega) _ | refine below_drewN ?_ _ | refine Below.drew ?_ | (with_reducible refine Below.trans ?_ (Below.mono (by assumption) (by (try simp); try omega)))))⟩
set_option maxRecDepth 100000 in
theorem refuses1_true (x : Int) (bx : Nat) (w : World) (h : Bn w bx #[.int .i64 x] 37) :
    Calls Tryz.prog 65 #[.agg #[.int .i64 0, .int .i64 0], .int .i64 x, .pointer (some ⟨bx, 0, none⟩)] w fun r w' => r = .returned (.bool true) ∧ Below w.heap.size w w' := by
  have c0 := h.cell 0 _ rfl
  have l0 := h.lt
  clear h
  go_enter Tryz.func65, Tryz.ntmps65
  go_wp2
  go_ret
  exact ⟨rfl, by (repeat (first | with_reducible exact Below.refl _ _ | with_reducible assumption | refine Below.alloc ?_ (by (try simp); try omega) _ | refine Below.setCell ?_ (by (try simp); try omega) _ | refine below_drewN ?_ _ | refine Below.drew ?_ | (with_reducible refine Below.trans ?_ (Below.mono (by assumption) (by (try simp); try omega)))))⟩
theorem xAdd0 (w : World) : Calls Tryz.prog 8 #[.agg #[.int .i64 4294967296, .int .i64 4294967296, .int .i64 8589934592, .int .i64 8589934592, .int .i64 12884901888, .int .i64 12884901888], .agg #[.int .i64 17179869184, .int .i64 17179869184, .int .i64 21474836480, .int .i64 21474836480, .int .i64 25769803776, .int .i64 25769803776]] w fun r w' => r = .returned (.tuple #[.agg #[.int .i64 21474836480, .int .i64 21474836480, .int .i64 30064771072, .int .i64 30064771072, .int .i64 38654705664, .int .i64 38654705664], .int .i64 0]) ∧ Below w.heap.size w w' := by
  have h := pAdd_any 4294967296 4294967296 8589934592 8589934592 12884901888 12884901888 17179869184 17179869184 21474836480 21474836480 25769803776 25769803776 w
  rw [show vAddR 4294967296 4294967296 8589934592 8589934592 12884901888 12884901888 17179869184 17179869184 21474836480 21474836480 25769803776 25769803776 = ⟨21474836480, 21474836480, 30064771072, 30064771072, 38654705664, 38654705664, 0⟩ from by kernel_rfl] at h
  exact h
theorem xSub1 (w : World) : Calls Tryz.prog 10 #[.agg #[.int .i64 4294967296, .int .i64 4294967296, .int .i64 8589934592, .int .i64 8589934592, .int .i64 12884901888, .int .i64 12884901888], .agg #[.int .i64 17179869184, .int .i64 17179869184, .int .i64 21474836480, .int .i64 21474836480, .int .i64 25769803776, .int .i64 25769803776]] w fun r w' => r = .returned (.tuple #[.agg #[.int .i64 (-12884901888), .int .i64 (-12884901888), .int .i64 (-12884901888), .int .i64 (-12884901888), .int .i64 (-12884901888), .int .i64 (-12884901888)], .int .i64 0]) ∧ Below w.heap.size w w' := by
  have h := pSub_any 4294967296 4294967296 8589934592 8589934592 12884901888 12884901888 17179869184 17179869184 21474836480 21474836480 25769803776 25769803776 w
  rw [show vSubR 4294967296 4294967296 8589934592 8589934592 12884901888 12884901888 17179869184 17179869184 21474836480 21474836480 25769803776 25769803776 = ⟨(-12884901888), (-12884901888), (-12884901888), (-12884901888), (-12884901888), (-12884901888), 0⟩ from by kernel_rfl] at h
  exact h
theorem xNeg2 (w : World) : Calls Tryz.prog 12 #[.agg #[.int .i64 4294967296, .int .i64 4294967296, .int .i64 8589934592, .int .i64 8589934592, .int .i64 12884901888, .int .i64 12884901888]] w fun r w' => r = .returned (.tuple #[.agg #[.int .i64 (-4294967296), .int .i64 (-4294967296), .int .i64 (-8589934592), .int .i64 (-8589934592), .int .i64 (-12884901888), .int .i64 (-12884901888)], .int .i64 0]) ∧ Below w.heap.size w w' := by
  have h := pNeg_any 4294967296 4294967296 8589934592 8589934592 12884901888 12884901888 w
  rw [show vNegR 4294967296 4294967296 8589934592 8589934592 12884901888 12884901888 = ⟨(-4294967296), (-4294967296), (-8589934592), (-8589934592), (-12884901888), (-12884901888), 0⟩ from by kernel_rfl] at h
  exact h
theorem xScale3 (w : World) : Calls Tryz.prog 17 #[.agg #[.int .i64 4294967296, .int .i64 4294967296, .int .i64 8589934592, .int .i64 8589934592, .int .i64 12884901888, .int .i64 12884901888], .agg #[.int .i64 8589934592, .int .i64 8589934592]] w fun r w' => r = .returned (.tuple #[.agg #[.int .i64 8589934592, .int .i64 8589934592, .int .i64 17179869184, .int .i64 17179869184, .int .i64 25769803776, .int .i64 25769803776], .int .i64 0]) ∧ Below w.heap.size w w' := by
  have h := pScale_any 4294967296 4294967296 8589934592 8589934592 12884901888 12884901888 8589934592 8589934592 w
  rw [show vScaleR 4294967296 4294967296 8589934592 8589934592 12884901888 12884901888 8589934592 8589934592 = ⟨8589934592, 8589934592, 17179869184, 17179869184, 25769803776, 25769803776, 0⟩ from by kernel_rfl] at h
  exact h
theorem xDot4 (w : World) : Calls Tryz.prog 19 #[.agg #[.int .i64 4294967296, .int .i64 4294967296, .int .i64 8589934592, .int .i64 8589934592, .int .i64 12884901888, .int .i64 12884901888], .agg #[.int .i64 17179869184, .int .i64 17179869184, .int .i64 21474836480, .int .i64 21474836480, .int .i64 25769803776, .int .i64 25769803776]] w fun r w' => r = .returned (.tuple #[.agg #[.int .i64 137438953472, .int .i64 137438953472], .int .i64 0]) ∧ Below w.heap.size w w' := by
  have h := pDot_any 4294967296 4294967296 8589934592 8589934592 12884901888 12884901888 17179869184 17179869184 21474836480 21474836480 25769803776 25769803776 w
  rw [show vDotR 4294967296 4294967296 8589934592 8589934592 12884901888 12884901888 17179869184 17179869184 21474836480 21474836480 25769803776 25769803776 = (137438953472, 137438953472, 0) from by kernel_rfl] at h
  exact h
theorem xCross5 (w : World) : Calls Tryz.prog 21 #[.agg #[.int .i64 4294967296, .int .i64 4294967296, .int .i64 0, .int .i64 0, .int .i64 0, .int .i64 0], .agg #[.int .i64 0, .int .i64 0, .int .i64 4294967296, .int .i64 4294967296, .int .i64 0, .int .i64 0]] w fun r w' => r = .returned (.tuple #[.agg #[.int .i64 0, .int .i64 0, .int .i64 0, .int .i64 0, .int .i64 4294967296, .int .i64 4294967296], .int .i64 0]) ∧ Below w.heap.size w w' := by
  have h := pCross_any 4294967296 4294967296 0 0 0 0 0 0 4294967296 4294967296 0 0 w
  rw [show vCrossR 4294967296 4294967296 0 0 0 0 0 0 4294967296 4294967296 0 0 = ⟨0, 0, 0, 0, 4294967296, 4294967296, 0⟩ from by kernel_rfl] at h
  exact h
theorem xCross6 (w : World) : Calls Tryz.prog 21 #[.agg #[.int .i64 0, .int .i64 0, .int .i64 4294967296, .int .i64 4294967296, .int .i64 0, .int .i64 0], .agg #[.int .i64 4294967296, .int .i64 4294967296, .int .i64 0, .int .i64 0, .int .i64 0, .int .i64 0]] w fun r w' => r = .returned (.tuple #[.agg #[.int .i64 0, .int .i64 0, .int .i64 0, .int .i64 0, .int .i64 (-4294967296), .int .i64 (-4294967296)], .int .i64 0]) ∧ Below w.heap.size w w' := by
  have h := pCross_any 0 0 4294967296 4294967296 0 0 4294967296 4294967296 0 0 0 0 w
  rw [show vCrossR 0 0 4294967296 4294967296 0 0 4294967296 4294967296 0 0 0 0 = ⟨0, 0, 0, 0, (-4294967296), (-4294967296), 0⟩ from by kernel_rfl] at h
  exact h
theorem xNorm7 (w : World) : Calls Tryz.prog 23 #[.agg #[.int .i64 8589934592, .int .i64 8589934592, .int .i64 12884901888, .int .i64 12884901888, .int .i64 25769803776, .int .i64 25769803776]] w fun r w' => r = .returned (.tuple #[.agg #[.int .i64 30064771072, .int .i64 30064771072], .int .i64 0]) ∧ Below w.heap.size w w' := by
  have h := pNorm_any 8589934592 8589934592 12884901888 12884901888 25769803776 25769803776 w
  rw [show vNormP 8589934592 8589934592 12884901888 12884901888 25769803776 25769803776 = (30064771072, 30064771072, 0) from by kernel_rfl] at h
  exact h
theorem xUnit8 (w : World) : Calls Tryz.prog 25 #[.agg #[.int .i64 0, .int .i64 0, .int .i64 0, .int .i64 0, .int .i64 (-17179869184), .int .i64 (-17179869184)]] w fun r w' => r = .returned (.tuple #[.agg #[.int .i64 0, .int .i64 0, .int .i64 0, .int .i64 0, .int .i64 (-4294967296), .int .i64 (-4294967296)], .int .i64 0]) ∧ Below w.heap.size w w' := by
  have h := pUnit_any 0 0 0 0 (-17179869184) (-17179869184) w
  rw [show vUnitR 0 0 0 0 (-17179869184) (-17179869184) = ⟨0, 0, 0, 0, (-4294967296), (-4294967296), 0⟩ from by kernel_rfl] at h
  exact h
theorem xUnit9 (w : World) : Calls Tryz.prog 25 #[.agg #[.int .i64 0, .int .i64 0, .int .i64 0, .int .i64 0, .int .i64 0, .int .i64 0]] w fun r w' => r = .returned (.tuple #[.agg #[.int .i64 0, .int .i64 0, .int .i64 0, .int .i64 0, .int .i64 0, .int .i64 0], .int .i64 7]) ∧ Below w.heap.size w w' := by
  have h := pUnit_any 0 0 0 0 0 0 w
  rw [show vUnitR 0 0 0 0 0 0 = ⟨0, 0, 0, 0, 0, 0, 7⟩ from by kernel_rfl] at h
  exact h
theorem xDot10 (w : World) : Calls Tryz.prog 19 #[.agg #[.int .i64 4398046511104, .int .i64 4398046511104, .int .i64 0, .int .i64 0, .int .i64 0, .int .i64 0], .agg #[.int .i64 4402341478400, .int .i64 4402341478400, .int .i64 0, .int .i64 0, .int .i64 0, .int .i64 0]] w fun r w' => r = .returned (.tuple #[.agg #[.int .i64 0, .int .i64 0], .int .i64 6]) ∧ Below w.heap.size w w' := by
  have h := pDot_any 4398046511104 4398046511104 0 0 0 0 4402341478400 4402341478400 0 0 0 0 w
  rw [show vDotR 4398046511104 4398046511104 0 0 0 0 4402341478400 4402341478400 0 0 0 0 = (0, 0, 6) from by kernel_rfl] at h
  exact h
theorem xCheck1 : ckV 1 0 0 0 0 0 = 20 := by decide +kernel
set_option maxRecDepth 100000 in
set_option maxHeartbeats 8000000 in
theorem works_true (w : World) : Calls Tryz.prog 6 #[] w fun r w' => r = .returned (.bool true) ∧ Below w.heap.size w w' := by
  have hB := Below.refl w.heap.size w
  go_enter Tryz.func6, Tryz.ntmps6
  go_wp2_with fail
  go_at_call 28
  refine (of_any 5 7 9 21474836480 30064771072 38654705664 _ (by omega) (by omega) (by omega) (by omega) (by omega) (by omega) rfl rfl rfl).mono ?_
  rintro r u3 ⟨rfl, hb⟩
  replace hB := hB.trans (hb.mono hB.size)
  clear hb
  go_wp2_with fail
  go_at_call 27
  refine (is_any 21474836480 21474836480 30064771072 30064771072 38654705664 38654705664 _).mono ?_
  rintro r u9 ⟨bx, rfl, hq, hb⟩
  replace hB := hB.trans (hb.mono hB.size)
  clear hb
  go_wp2_with fail
  go_at_call 28
  refine (of_any 1 2 3 4294967296 8589934592 12884901888 _ (by omega) (by omega) (by omega) (by omega) (by omega) (by omega) rfl rfl rfl).mono ?_
  rintro r u15 ⟨rfl, hb⟩
  replace hq := hq.keep hb
  replace hB := hB.trans (hb.mono hB.size)
  clear hb
  go_wp2_with fail
  go_at_call 28
  refine (of_any 4 5 6 17179869184 21474836480 25769803776 _ (by omega) (by omega) (by omega) (by omega) (by omega) (by omega) rfl rfl rfl).mono ?_
  rintro r u22 ⟨rfl, hb⟩
  replace hq := hq.keep hb
  replace hB := hB.trans (hb.mono hB.size)
  clear hb
  go_wp2_with fail
  go_at_call 8
  refine (xAdd0 _).mono ?_
  rintro r u29 ⟨rfl, hb⟩
  replace hq := hq.keep hb
  replace hB := hB.trans (hb.mono hB.size)
  clear hb
  go_wp2_with fail
  go_at_call 62
  refine (is1_true 21474836480 21474836480 30064771072 30064771072 38654705664 38654705664 bx _ hq).mono ?_
  rintro r u36 ⟨rfl, hb⟩
  clear hq
  replace hB := hB.trans (hb.mono hB.size)
  clear hb
  go_wp2_with fail
  go_at_call 28
  refine (of_any (-3) (-3) (-3) (-12884901888) (-12884901888) (-12884901888) _ (by omega) (by omega) (by omega) (by omega) (by omega) (by omega) rfl rfl rfl).mono ?_
  rintro r u43 ⟨rfl, hb⟩
  replace hB := hB.trans (hb.mono hB.size)
  clear hb
  go_wp2_with fail
  go_at_call 27
  refine (is_any (-12884901888) (-12884901888) (-12884901888) (-12884901888) (-12884901888) (-12884901888) _).mono ?_
  rintro r u49 ⟨bx, rfl, hq, hb⟩
  replace hB := hB.trans (hb.mono hB.size)
  clear hb
  go_wp2_with fail
  go_at_call 28
  refine (of_any 1 2 3 4294967296 8589934592 12884901888 _ (by omega) (by omega) (by omega) (by omega) (by omega) (by omega) rfl rfl rfl).mono ?_
  rintro r u55 ⟨rfl, hb⟩
  replace hq := hq.keep hb
  replace hB := hB.trans (hb.mono hB.size)
  clear hb
  go_wp2_with fail
  go_at_call 28
  refine (of_any 4 5 6 17179869184 21474836480 25769803776 _ (by omega) (by omega) (by omega) (by omega) (by omega) (by omega) rfl rfl rfl).mono ?_
  rintro r u62 ⟨rfl, hb⟩
  replace hq := hq.keep hb
  replace hB := hB.trans (hb.mono hB.size)
  clear hb
  go_wp2_with fail
  go_at_call 10
  refine (xSub1 _).mono ?_
  rintro r u69 ⟨rfl, hb⟩
  replace hq := hq.keep hb
  replace hB := hB.trans (hb.mono hB.size)
  clear hb
  go_wp2_with fail
  go_at_call 62
  refine (is1_true (-12884901888) (-12884901888) (-12884901888) (-12884901888) (-12884901888) (-12884901888) bx _ hq).mono ?_
  rintro r u76 ⟨rfl, hb⟩
  clear hq
  replace hB := hB.trans (hb.mono hB.size)
  clear hb
  go_wp2_with fail
  go_at_call 28
  refine (of_any (-1) (-2) (-3) (-4294967296) (-8589934592) (-12884901888) _ (by omega) (by omega) (by omega) (by omega) (by omega) (by omega) rfl rfl rfl).mono ?_
  rintro r u83 ⟨rfl, hb⟩
  replace hB := hB.trans (hb.mono hB.size)
  clear hb
  go_wp2_with fail
  go_at_call 27
  refine (is_any (-4294967296) (-4294967296) (-8589934592) (-8589934592) (-12884901888) (-12884901888) _).mono ?_
  rintro r u89 ⟨bx, rfl, hq, hb⟩
  replace hB := hB.trans (hb.mono hB.size)
  clear hb
  go_wp2_with fail
  go_at_call 28
  refine (of_any 1 2 3 4294967296 8589934592 12884901888 _ (by omega) (by omega) (by omega) (by omega) (by omega) (by omega) rfl rfl rfl).mono ?_
  rintro r u95 ⟨rfl, hb⟩
  replace hq := hq.keep hb
  replace hB := hB.trans (hb.mono hB.size)
  clear hb
  go_wp2_with fail
  go_at_call 12
  refine (xNeg2 _).mono ?_
  rintro r u102 ⟨rfl, hb⟩
  replace hq := hq.keep hb
  replace hB := hB.trans (hb.mono hB.size)
  clear hb
  go_wp2_with fail
  go_at_call 62
  refine (is1_true (-4294967296) (-4294967296) (-8589934592) (-8589934592) (-12884901888) (-12884901888) bx _ hq).mono ?_
  rintro r u109 ⟨rfl, hb⟩
  clear hq
  replace hB := hB.trans (hb.mono hB.size)
  clear hb
  go_wp2_with fail
  go_at_call 28
  refine (of_any 2 4 6 8589934592 17179869184 25769803776 _ (by omega) (by omega) (by omega) (by omega) (by omega) (by omega) rfl rfl rfl).mono ?_
  rintro r u116 ⟨rfl, hb⟩
  replace hB := hB.trans (hb.mono hB.size)
  clear hb
  go_wp2_with fail
  go_at_call 27
  refine (is_any 8589934592 8589934592 17179869184 17179869184 25769803776 25769803776 _).mono ?_
  rintro r u122 ⟨bx, rfl, hq, hb⟩
  replace hB := hB.trans (hb.mono hB.size)
  clear hb
  go_wp2_with fail
  go_at_call 28
  refine (of_any 1 2 3 4294967296 8589934592 12884901888 _ (by omega) (by omega) (by omega) (by omega) (by omega) (by omega) rfl rfl rfl).mono ?_
  rintro r u128 ⟨rfl, hb⟩
  replace hq := hq.keep hb
  replace hB := hB.trans (hb.mono hB.size)
  clear hb
  go_wp2_with fail
  go_at_call 29
  refine (point_any 2 8589934592 _ (by omega) (by omega) rfl).mono ?_
  rintro r u135 ⟨rfl, hb⟩
  replace hq := hq.keep hb
  replace hB := hB.trans (hb.mono hB.size)
  clear hb
  go_wp2_with fail
  go_at_call 17
  refine (xScale3 _).mono ?_
  rintro r u142 ⟨rfl, hb⟩
  replace hq := hq.keep hb
  replace hB := hB.trans (hb.mono hB.size)
  clear hb
  go_wp2_with fail
  go_at_call 62
  refine (is1_true 8589934592 8589934592 17179869184 17179869184 25769803776 25769803776 bx _ hq).mono ?_
  rintro r u149 ⟨rfl, hb⟩
  clear hq
  replace hB := hB.trans (hb.mono hB.size)
  clear hb
  go_wp2_with fail
  go_at_call 29
  refine (point_any 32 137438953472 _ (by omega) (by omega) rfl).mono ?_
  rintro r u156 ⟨rfl, hb⟩
  replace hB := hB.trans (hb.mono hB.size)
  clear hb
  go_wp2_with fail
  go_at_call 30
  refine (says_any 137438953472 137438953472 _).mono ?_
  rintro r u162 ⟨bx, rfl, hq, hb⟩
  replace hB := hB.trans (hb.mono hB.size)
  clear hb
  go_wp2_with fail
  go_at_call 28
  refine (of_any 1 2 3 4294967296 8589934592 12884901888 _ (by omega) (by omega) (by omega) (by omega) (by omega) (by omega) rfl rfl rfl).mono ?_
  rintro r u168 ⟨rfl, hb⟩
  replace hq := hq.keep hb
  replace hB := hB.trans (hb.mono hB.size)
  clear hb
  go_wp2_with fail
  go_at_call 28
  refine (of_any 4 5 6 17179869184 21474836480 25769803776 _ (by omega) (by omega) (by omega) (by omega) (by omega) (by omega) rfl rfl rfl).mono ?_
  rintro r u175 ⟨rfl, hb⟩
  replace hq := hq.keep hb
  replace hB := hB.trans (hb.mono hB.size)
  clear hb
  go_wp2_with fail
  go_at_call 19
  refine (xDot4 _).mono ?_
  rintro r u182 ⟨rfl, hb⟩
  replace hq := hq.keep hb
  replace hB := hB.trans (hb.mono hB.size)
  clear hb
  go_wp2_with fail
  go_at_call 63
  refine (says1_true 137438953472 137438953472 bx _ hq).mono ?_
  rintro r u189 ⟨rfl, hb⟩
  clear hq
  replace hB := hB.trans (hb.mono hB.size)
  clear hb
  go_wp2_with fail
  go_at_call 28
  refine (of_any 0 0 1 0 0 4294967296 _ (by omega) (by omega) (by omega) (by omega) (by omega) (by omega) rfl rfl rfl).mono ?_
  rintro r u196 ⟨rfl, hb⟩
  replace hB := hB.trans (hb.mono hB.size)
  clear hb
  go_wp2_with fail
  go_at_call 27
  refine (is_any 0 0 0 0 4294967296 4294967296 _).mono ?_
  rintro r u202 ⟨bx, rfl, hq, hb⟩
  replace hB := hB.trans (hb.mono hB.size)
  clear hb
  go_wp2_with fail
  go_at_call 28
  refine (of_any 1 0 0 4294967296 0 0 _ (by omega) (by omega) (by omega) (by omega) (by omega) (by omega) rfl rfl rfl).mono ?_
  rintro r u208 ⟨rfl, hb⟩
  replace hq := hq.keep hb
  replace hB := hB.trans (hb.mono hB.size)
  clear hb
  go_wp2_with fail
  go_at_call 28
  refine (of_any 0 1 0 0 4294967296 0 _ (by omega) (by omega) (by omega) (by omega) (by omega) (by omega) rfl rfl rfl).mono ?_
  rintro r u215 ⟨rfl, hb⟩
  replace hq := hq.keep hb
  replace hB := hB.trans (hb.mono hB.size)
  clear hb
  go_wp2_with fail
  go_at_call 21
  refine (xCross5 _).mono ?_
  rintro r u222 ⟨rfl, hb⟩
  replace hq := hq.keep hb
  replace hB := hB.trans (hb.mono hB.size)
  clear hb
  go_wp2_with fail
  go_at_call 62
  refine (is1_true 0 0 0 0 4294967296 4294967296 bx _ hq).mono ?_
  rintro r u229 ⟨rfl, hb⟩
  clear hq
  replace hB := hB.trans (hb.mono hB.size)
  clear hb
  go_wp2_with fail
  go_at_call 28
  refine (of_any 0 0 (-1) 0 0 (-4294967296) _ (by omega) (by omega) (by omega) (by omega) (by omega) (by omega) rfl rfl rfl).mono ?_
  rintro r u236 ⟨rfl, hb⟩
  replace hB := hB.trans (hb.mono hB.size)
  clear hb
  go_wp2_with fail
  go_at_call 27
  refine (is_any 0 0 0 0 (-4294967296) (-4294967296) _).mono ?_
  rintro r u242 ⟨bx, rfl, hq, hb⟩
  replace hB := hB.trans (hb.mono hB.size)
  clear hb
  go_wp2_with fail
  go_at_call 28
  refine (of_any 0 1 0 0 4294967296 0 _ (by omega) (by omega) (by omega) (by omega) (by omega) (by omega) rfl rfl rfl).mono ?_
  rintro r u248 ⟨rfl, hb⟩
  replace hq := hq.keep hb
  replace hB := hB.trans (hb.mono hB.size)
  clear hb
  go_wp2_with fail
  go_at_call 28
  refine (of_any 1 0 0 4294967296 0 0 _ (by omega) (by omega) (by omega) (by omega) (by omega) (by omega) rfl rfl rfl).mono ?_
  rintro r u255 ⟨rfl, hb⟩
  replace hq := hq.keep hb
  replace hB := hB.trans (hb.mono hB.size)
  clear hb
  go_wp2_with fail
  go_at_call 21
  refine (xCross6 _).mono ?_
  rintro r u262 ⟨rfl, hb⟩
  replace hq := hq.keep hb
  replace hB := hB.trans (hb.mono hB.size)
  clear hb
  go_wp2_with fail
  go_at_call 62
  refine (is1_true 0 0 0 0 (-4294967296) (-4294967296) bx _ hq).mono ?_
  rintro r u269 ⟨rfl, hb⟩
  clear hq
  replace hB := hB.trans (hb.mono hB.size)
  clear hb
  go_wp2_with fail
  go_at_call 29
  refine (point_any 7 30064771072 _ (by omega) (by omega) rfl).mono ?_
  rintro r u276 ⟨rfl, hb⟩
  replace hB := hB.trans (hb.mono hB.size)
  clear hb
  go_wp2_with fail
  go_at_call 30
  refine (says_any 30064771072 30064771072 _).mono ?_
  rintro r u282 ⟨bx, rfl, hq, hb⟩
  replace hB := hB.trans (hb.mono hB.size)
  clear hb
  go_wp2_with fail
  go_at_call 28
  refine (of_any 2 3 6 8589934592 12884901888 25769803776 _ (by omega) (by omega) (by omega) (by omega) (by omega) (by omega) rfl rfl rfl).mono ?_
  rintro r u288 ⟨rfl, hb⟩
  replace hq := hq.keep hb
  replace hB := hB.trans (hb.mono hB.size)
  clear hb
  go_wp2_with fail
  go_at_call 23
  refine (xNorm7 _).mono ?_
  rintro r u295 ⟨rfl, hb⟩
  replace hq := hq.keep hb
  replace hB := hB.trans (hb.mono hB.size)
  clear hb
  go_wp2_with fail
  go_at_call 63
  refine (says1_true 30064771072 30064771072 bx _ hq).mono ?_
  rintro r u302 ⟨rfl, hb⟩
  clear hq
  replace hB := hB.trans (hb.mono hB.size)
  clear hb
  go_wp2_with fail
  go_at_call 28
  refine (of_any 0 0 (-1) 0 0 (-4294967296) _ (by omega) (by omega) (by omega) (by omega) (by omega) (by omega) rfl rfl rfl).mono ?_
  rintro r u309 ⟨rfl, hb⟩
  replace hB := hB.trans (hb.mono hB.size)
  clear hb
  go_wp2_with fail
  go_at_call 27
  refine (is_any 0 0 0 0 (-4294967296) (-4294967296) _).mono ?_
  rintro r u315 ⟨bx, rfl, hq, hb⟩
  replace hB := hB.trans (hb.mono hB.size)
  clear hb
  go_wp2_with fail
  go_at_call 28
  refine (of_any 0 0 (-4) 0 0 (-17179869184) _ (by omega) (by omega) (by omega) (by omega) (by omega) (by omega) rfl rfl rfl).mono ?_
  rintro r u321 ⟨rfl, hb⟩
  replace hq := hq.keep hb
  replace hB := hB.trans (hb.mono hB.size)
  clear hb
  go_wp2_with fail
  go_at_call 25
  refine (xUnit8 _).mono ?_
  rintro r u328 ⟨rfl, hb⟩
  replace hq := hq.keep hb
  replace hB := hB.trans (hb.mono hB.size)
  clear hb
  go_wp2_with fail
  go_at_call 62
  refine (is1_true 0 0 0 0 (-4294967296) (-4294967296) bx _ hq).mono ?_
  rintro r u335 ⟨rfl, hb⟩
  clear hq
  replace hB := hB.trans (hb.mono hB.size)
  clear hb
  go_wp2_with fail
  go_at_call 31
  refine (fails_any 7 _).mono ?_
  rintro r u342 ⟨bx, rfl, hq, hb⟩
  replace hB := hB.trans (hb.mono hB.size)
  clear hb
  go_wp2_with fail
  go_at_call 28
  refine (of_any 0 0 0 0 0 0 _ (by omega) (by omega) (by omega) (by omega) (by omega) (by omega) rfl rfl rfl).mono ?_
  rintro r u348 ⟨rfl, hb⟩
  replace hq := hq.keep hb
  replace hB := hB.trans (hb.mono hB.size)
  clear hb
  go_wp2_with fail
  go_at_call 25
  refine (xUnit9 _).mono ?_
  rintro r u355 ⟨rfl, hb⟩
  replace hq := hq.keep hb
  replace hB := hB.trans (hb.mono hB.size)
  clear hb
  go_wp2_with fail
  go_at_call 64
  refine (fails1_true 7 bx _ hq).mono ?_
  rintro r u362 ⟨rfl, hb⟩
  clear hq
  replace hB := hB.trans (hb.mono hB.size)
  clear hb
  go_wp2_with fail
  go_at_call 32
  refine (refuses_any 6 _).mono ?_
  rintro r u369 ⟨bx, rfl, hq, hb⟩
  replace hB := hB.trans (hb.mono hB.size)
  clear hb
  go_wp2_with fail
  go_at_call 28
  refine (of_any 1024 0 0 4398046511104 0 0 _ (by omega) (by omega) (by omega) (by omega) (by omega) (by omega) rfl rfl rfl).mono ?_
  rintro r u375 ⟨rfl, hb⟩
  replace hq := hq.keep hb
  replace hB := hB.trans (hb.mono hB.size)
  clear hb
  go_wp2_with fail
  go_at_call 28
  refine (of_any 1025 0 0 4402341478400 0 0 _ (by omega) (by omega) (by omega) (by omega) (by omega) (by omega) rfl rfl rfl).mono ?_
  rintro r u382 ⟨rfl, hb⟩
  replace hq := hq.keep hb
  replace hB := hB.trans (hb.mono hB.size)
  clear hb
  go_wp2_with fail
  go_at_call 19
  refine (xDot10 _).mono ?_
  rintro r u389 ⟨rfl, hb⟩
  replace hq := hq.keep hb
  replace hB := hB.trans (hb.mono hB.size)
  clear hb
  go_wp2_with fail
  go_at_call 65
  refine (refuses1_true 6 bx _ hq).mono ?_
  rintro r u396 ⟨rfl, hb⟩
  clear hq
  replace hB := hB.trans (hb.mono hB.size)
  clear hb
  go_wp2_with fail
  go_at_call 14
  refine (vCheck_any 1 0 0 0 0 0 _).mono ?_
  rintro r ux ⟨rfl, hb⟩
  rw [xCheck1]
  replace hB := hB.trans (hb.mono hB.size)
  clear hb
  go_wp2
  go_ret
  exact ⟨rfl, hB⟩
end Go.Proofs.YtnfapdmbkpkkdaaGreat
