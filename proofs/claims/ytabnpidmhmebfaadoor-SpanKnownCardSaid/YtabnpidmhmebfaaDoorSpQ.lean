/-
  The chapter's examples of package span, as the statements look at them.
-/
import Derived.Test.YtabnpidmhmebfaaDoorSpP
import Derived.Test.YtabnpidmhmebfaaDoorFixK
namespace Go.Proofs.YtabnpidmhmebfaaDoor
open Go.RowKit

theorem of_any (l h : Int) (w : World) (l0 : -4294967296 ≤ l) (l1 : l ≤ 4294967296) (h0 : -4294967296 ≤ h) (h1 : h ≤ 4294967296) :
    Calls Tryd.prog 15 #[.int .i64 l, .int .i64 h] w fun e w' => e = .returned (.agg #[.int .i64 (l * 1073741824), .int .i64 (h * 1073741824)]) ∧ Below w.heap.size w w' := by
  go_enter Tryd.func15, Tryd.ntmps15
  go_wp2
  exact bodyPost_ret (v := .agg #[.int .i64 (l * 1073741824), .int .i64 (h * 1073741824)]) (by simp [results, Tryd.results15, go_sem]) rfl ⟨rfl, by (repeat (first | with_reducible exact Below.refl _ _ | with_reducible assumption | refine Below.alloc ?_ (by (try simp); try omega) _ | refine Below.setCell ?_ (by (try simp); try omega) _ | refine below_drewN ?_ _ | refine Below.drew ?_ | (with_reducible refine Below.trans ?_ (Below.mono (by assumption) (by (try simp); try omega)))))⟩
theorem whole_any (l h : Int) (w : World) (l0 : -1073741824 ≤ l) (l1 : l ≤ 1073741824) (h0 : -1073741824 ≤ h) (h1 : h ≤ 1073741824) :
    Calls Tryd.prog 5 #[.int .i64 l, .int .i64 h] w fun e w' => e = .returned (.agg #[.int .i64 (l * 4294967296), .int .i64 (h * 4294967296)]) ∧ Below w.heap.size w w' := by
  have ho := fun w => of_any (4 * l) (4 * h) w (by omega) (by omega) (by omega) (by omega)
  rw [show 4 * l * 1073741824 = l * 4294967296 by omega, show 4 * h * 1073741824 = h * 4294967296 by omega] at ho
  go_enter Tryd.func5, Tryd.ntmps5
  go_wp2_with (go_at_call 15; refine (ho _).mono ?_; rintro e w1 ⟨rfl, hb1⟩; obtain ⟨hc1, hf1⟩ := bcell hb1; have hz1 : w.heap.size < w1.heap.size := (by have := hb1.size; (try simp at this); omega); have r01 : w1.cell? ⟨w.heap.size, 0, none⟩ = some (.int .i64 0) := bkeep hb1 (by first | (simp [go_sem]; done)); have r11 : w1.cell? ⟨w.heap.size, 1, none⟩ = some (.int .i64 0) := bkeep hb1 (by first | (simp [go_sem]; done)); have z01 : w1.frozen? ⟨w.heap.size, 0, none⟩ = false := bfrz hb1 (by first | omega | (simp; done) | (simp; omega)) (by first | (simp [go_sem]; done)); have z11 : w1.frozen? ⟨w.heap.size, 1, none⟩ = false := bfrz hb1 (by first | omega | (simp; done) | (simp; omega)) (by first | (simp [go_sem]; done)))
  exact bodyPost_ret (v := .agg #[.int .i64 (l * 4294967296), .int .i64 (h * 4294967296)]) (by simp [results, Tryd.results5, go_sem, r01, r11]) rfl ⟨rfl, by (repeat (first | with_reducible exact Below.refl _ _ | with_reducible assumption | refine Below.alloc ?_ (by (try simp); try omega) _ | refine Below.setCell ?_ (by (try simp); try omega) _ | refine below_drewN ?_ _ | refine Below.drew ?_ | (with_reducible refine Below.trans ?_ (Below.mono (by assumption) (by (try simp); try omega)))))⟩
theorem is_any (x y : Int) (w : World) :
    Calls Tryd.prog 7 #[.agg #[.int .i64 x, .int .i64 y]] w fun e w' => ∃ bx : Nat, e = .returned (.func (.func 34) #[] #[.pointer (some ⟨bx, 0, none⟩)]) ∧ (w'.cell? ⟨bx, 0, none⟩ = some (.int .i64 x) ∧ w'.cell? ⟨bx, 1, none⟩ = some (.int .i64 y)) ∧ Below w.heap.size w w' := by
  have hmf : ∀ (fn : Fn) (first cap : Array Value) (w : World), (Instr.makeFunc fn first cap).run Tryd.prog w = .ok (.func fn first cap) w := fun _ _ _ _ => rfl
  have h : Calls Tryd.prog 7 #[.agg #[.int .i64 x, .int .i64 y]] w fun e w' => e = .returned (.func (.func 34) #[] #[.pointer (some ⟨w.heap.size, 0, none⟩)]) ∧ w' = w.alloc (.cells #[.int .i64 x, .int .i64 y] 24) := by
    go_enter Tryd.func7, Tryd.ntmps7
    go_wp2
    go_ret
    exact ⟨rfl, rfl⟩
  refine h.mono ?_
  rintro e w' ⟨rfl, rfl⟩
  exact ⟨_, rfl, by simp, by (repeat (first | with_reducible exact Below.refl _ _ | with_reducible assumption | refine Below.alloc ?_ (by (try simp); try omega) _ | refine Below.setCell ?_ (by (try simp); try omega) _ | refine below_drewN ?_ _ | refine Below.drew ?_ | (with_reducible refine Below.trans ?_ (Below.mono (by assumption) (by (try simp); try omega)))))⟩
theorem fails_any (x : Int) (w : World) :
    Calls Tryd.prog 9 #[.int .i64 x] w fun e w' => ∃ bx : Nat, e = .returned (.func (.func 35) #[] #[.pointer (some ⟨bx, 0, none⟩)]) ∧ (w'.cell? ⟨bx, 0, none⟩ = some (.int .i64 x)) ∧ Below w.heap.size w w' := by
  have hmf : ∀ (fn : Fn) (first cap : Array Value) (w : World), (Instr.makeFunc fn first cap).run Tryd.prog w = .ok (.func fn first cap) w := fun _ _ _ _ => rfl
  have h : Calls Tryd.prog 9 #[.int .i64 x] w fun e w' => e = .returned (.func (.func 35) #[] #[.pointer (some ⟨w.heap.size, 0, none⟩)]) ∧ w' = w.alloc (.cells #[.int .i64 x] 26) := by
    go_enter Tryd.func9, Tryd.ntmps9
    go_wp2
    go_ret
    exact ⟨rfl, rfl⟩
  refine h.mono ?_
  rintro e w' ⟨rfl, rfl⟩
  exact ⟨_, rfl, by simp, by (repeat (first | with_reducible exact Below.refl _ _ | with_reducible assumption | refine Below.alloc ?_ (by (try simp); try omega) _ | refine Below.setCell ?_ (by (try simp); try omega) _ | refine below_drewN ?_ _ | refine Below.drew ?_ | (with_reducible refine Below.trans ?_ (Below.mono (by assumption) (by (try simp); try omega)))))⟩
theorem says_any (x : Int) (w : World) :
    Calls Tryd.prog 20 #[.int .i64 x] w fun e w' => ∃ bx : Nat, e = .returned (.func (.func 57) #[] #[.pointer (some ⟨bx, 0, none⟩)]) ∧ (w'.cell? ⟨bx, 0, none⟩ = some (.int .i64 x)) ∧ Below w.heap.size w w' := by
  have hmf : ∀ (fn : Fn) (first cap : Array Value) (w : World), (Instr.makeFunc fn first cap).run Tryd.prog w = .ok (.func fn first cap) w := fun _ _ _ _ => rfl
  have h : Calls Tryd.prog 20 #[.int .i64 x] w fun e w' => e = .returned (.func (.func 57) #[] #[.pointer (some ⟨w.heap.size, 0, none⟩)]) ∧ w' = w.alloc (.cells #[.int .i64 x] 3) := by
    go_enter Tryd.func20, Tryd.ntmps20
    go_wp2
    go_ret
    exact ⟨rfl, rfl⟩
  refine h.mono ?_
  rintro e w' ⟨rfl, rfl⟩
  exact ⟨_, rfl, by simp, by (repeat (first | with_reducible exact Below.refl _ _ | with_reducible assumption | refine Below.alloc ?_ (by (try simp); try omega) _ | refine Below.setCell ?_ (by (try simp); try omega) _ | refine below_drewN ?_ _ | refine Below.drew ?_ | (with_reducible refine Below.trans ?_ (Below.mono (by assumption) (by (try simp); try omega)))))⟩
theorem is1_true (x y : Int) (bx : Nat) (w : World) (h0 : w.cell? ⟨bx, 0, none⟩ = some (.int .i64 x)) (h1 : w.cell? ⟨bx, 1, none⟩ = some (.int .i64 y)) :
    Calls Tryd.prog 34 #[.agg #[.int .i64 x, .int .i64 y], .int .i64 0, .pointer (some ⟨bx, 0, none⟩)] w fun r w' => r = .returned (.bool true) ∧ Below w.heap.size w w' := by
  have hlt := World.block_lt_of_cell? w _ h0
  simp at hlt
  go_enter Tryd.func34, Tryd.ntmps34
  go_wp2
  go_ret
  exact ⟨rfl, by (repeat (first | with_reducible exact Below.refl _ _ | with_reducible assumption | refine Below.alloc ?_ (by (try simp); try omega) _ | refine Below.setCell ?_ (by (try simp); try omega) _ | refine below_drewN ?_ _ | refine Below.drew ?_ | (with_reducible refine Below.trans ?_ (Below.mono (by assumption) (by (try simp); try omega)))))⟩
theorem fails1_true (x : Int) (bx : Nat) (w : World) (h0 : w.cell? ⟨bx, 0, none⟩ = some (.int .i64 x)) :
    Calls Tryd.prog 35 #[.agg #[.int .i64 0, .int .i64 0], .int .i64 x, .pointer (some ⟨bx, 0, none⟩)] w fun r w' => r = .returned (.bool true) ∧ Below w.heap.size w w' := by
  have hlt := World.block_lt_of_cell? w _ h0
  simp at hlt
  go_enter Tryd.func35, Tryd.ntmps35
  go_wp2
  go_ret
  exact ⟨rfl, by (repeat (first | with_reducible exact Below.refl _ _ | with_reducible assumption | refine Below.alloc ?_ (by (try simp); try omega) _ | refine Below.setCell ?_ (by (try simp); try omega) _ | refine below_drewN ?_ _ | refine Below.drew ?_ | (with_reducible refine Below.trans ?_ (Below.mono (by assumption) (by (try simp); try omega)))))⟩
theorem says1_true (x : Int) (bx : Nat) (w : World) (h0 : w.cell? ⟨bx, 0, none⟩ = some (.int .i64 x)) :
    Calls Tryd.prog 57 #[.int .i64 x, .int .i64 0, .pointer (some ⟨bx, 0, none⟩)] w fun r w' => r = .returned (.bool true) ∧ Below w.heap.size w w' := by
  go_enter Tryd.func57, Tryd.ntmps57
  go_wp2
  go_ret
  exact ⟨rfl, by (repeat (first | with_reducible exact Below.refl _ _ | with_reducible assumption | refine Below.alloc ?_ (by (try simp); try omega) _ | refine Below.setCell ?_ (by (try simp); try omega) _ | refine below_drewN ?_ _ | refine Below.drew ?_ | (with_reducible refine Below.trans ?_ (Below.mono (by assumption) (by (try simp); try omega)))))⟩
theorem wh_4_6 (w : World) : Calls Tryd.prog 5 #[.int .i64 4, .int .i64 6] w fun e w' => e = .returned (.agg #[.int .i64 17179869184, .int .i64 25769803776]) ∧ Below w.heap.size w w' := whole_any 4 6 w (by omega) (by omega) (by omega) (by omega)
theorem wh_1_2 (w : World) : Calls Tryd.prog 5 #[.int .i64 1, .int .i64 2] w fun e w' => e = .returned (.agg #[.int .i64 4294967296, .int .i64 8589934592]) ∧ Below w.heap.size w w' := whole_any 1 2 w (by omega) (by omega) (by omega) (by omega)
theorem wh_3_4 (w : World) : Calls Tryd.prog 5 #[.int .i64 3, .int .i64 4] w fun e w' => e = .returned (.agg #[.int .i64 12884901888, .int .i64 17179869184]) ∧ Below w.heap.size w w' := whole_any 3 4 w (by omega) (by omega) (by omega) (by omega)
theorem wh_m3_m1 (w : World) : Calls Tryd.prog 5 #[.int .i64 (-3), .int .i64 (-1)] w fun e w' => e = .returned (.agg #[.int .i64 (-12884901888), .int .i64 (-4294967296)]) ∧ Below w.heap.size w w' := whole_any (-3) (-1) w (by omega) (by omega) (by omega) (by omega)
theorem wh_m2_m1 (w : World) : Calls Tryd.prog 5 #[.int .i64 (-2), .int .i64 (-1)] w fun e w' => e = .returned (.agg #[.int .i64 (-8589934592), .int .i64 (-4294967296)]) ∧ Below w.heap.size w w' := whole_any (-2) (-1) w (by omega) (by omega) (by omega) (by omega)
theorem wh_m6_8 (w : World) : Calls Tryd.prog 5 #[.int .i64 (-6), .int .i64 8] w fun e w' => e = .returned (.agg #[.int .i64 (-25769803776), .int .i64 34359738368]) ∧ Below w.heap.size w w' := whole_any (-6) 8 w (by omega) (by omega) (by omega) (by omega)
theorem wh_m1_2 (w : World) : Calls Tryd.prog 5 #[.int .i64 (-1), .int .i64 2] w fun e w' => e = .returned (.agg #[.int .i64 (-4294967296), .int .i64 8589934592]) ∧ Below w.heap.size w w' := whole_any (-1) 2 w (by omega) (by omega) (by omega) (by omega)
theorem wh_m3_4 (w : World) : Calls Tryd.prog 5 #[.int .i64 (-3), .int .i64 4] w fun e w' => e = .returned (.agg #[.int .i64 (-12884901888), .int .i64 17179869184]) ∧ Below w.heap.size w w' := whole_any (-3) 4 w (by omega) (by omega) (by omega) (by omega)
theorem wh_0_4 (w : World) : Calls Tryd.prog 5 #[.int .i64 0, .int .i64 4] w fun e w' => e = .returned (.agg #[.int .i64 0, .int .i64 17179869184]) ∧ Below w.heap.size w w' := whole_any 0 4 w (by omega) (by omega) (by omega) (by omega)
theorem wh_m8_1 (w : World) : Calls Tryd.prog 5 #[.int .i64 (-8), .int .i64 1] w fun e w' => e = .returned (.agg #[.int .i64 (-34359738368), .int .i64 4294967296]) ∧ Below w.heap.size w w' := whole_any (-8) 1 w (by omega) (by omega) (by omega) (by omega)
theorem wh_m2_1 (w : World) : Calls Tryd.prog 5 #[.int .i64 (-2), .int .i64 1] w fun e w' => e = .returned (.agg #[.int .i64 (-8589934592), .int .i64 4294967296]) ∧ Below w.heap.size w w' := whole_any (-2) 1 w (by omega) (by omega) (by omega) (by omega)
theorem wh_m4_m2 (w : World) : Calls Tryd.prog 5 #[.int .i64 (-4), .int .i64 (-2)] w fun e w' => e = .returned (.agg #[.int .i64 (-17179869184), .int .i64 (-8589934592)]) ∧ Below w.heap.size w w' := whole_any (-4) (-2) w (by omega) (by omega) (by omega) (by omega)
theorem wh_0_1 (w : World) : Calls Tryd.prog 5 #[.int .i64 0, .int .i64 1] w fun e w' => e = .returned (.agg #[.int .i64 0, .int .i64 4294967296]) ∧ Below w.heap.size w w' := whole_any 0 1 w (by omega) (by omega) (by omega) (by omega)
theorem wh_2_3 (w : World) : Calls Tryd.prog 5 #[.int .i64 2, .int .i64 3] w fun e w' => e = .returned (.agg #[.int .i64 8589934592, .int .i64 12884901888]) ∧ Below w.heap.size w w' := whole_any 2 3 w (by omega) (by omega) (by omega) (by omega)
theorem wh_4_9 (w : World) : Calls Tryd.prog 5 #[.int .i64 4, .int .i64 9] w fun e w' => e = .returned (.agg #[.int .i64 17179869184, .int .i64 38654705664]) ∧ Below w.heap.size w w' := whole_any 4 9 w (by omega) (by omega) (by omega) (by omega)
theorem wh_0_3 (w : World) : Calls Tryd.prog 5 #[.int .i64 0, .int .i64 3] w fun e w' => e = .returned (.agg #[.int .i64 0, .int .i64 12884901888]) ∧ Below w.heap.size w w' := whole_any 0 3 w (by omega) (by omega) (by omega) (by omega)
theorem wh_m3_2 (w : World) : Calls Tryd.prog 5 #[.int .i64 (-3), .int .i64 2] w fun e w' => e = .returned (.agg #[.int .i64 (-12884901888), .int .i64 8589934592]) ∧ Below w.heap.size w w' := whole_any (-3) 2 w (by omega) (by omega) (by omega) (by omega)
theorem wh_1_3 (w : World) : Calls Tryd.prog 5 #[.int .i64 1, .int .i64 3] w fun e w' => e = .returned (.agg #[.int .i64 4294967296, .int .i64 12884901888]) ∧ Below w.heap.size w w' := whole_any 1 3 w (by omega) (by omega) (by omega) (by omega)
theorem wh_1_4 (w : World) : Calls Tryd.prog 5 #[.int .i64 1, .int .i64 4] w fun e w' => e = .returned (.agg #[.int .i64 4294967296, .int .i64 17179869184]) ∧ Below w.heap.size w w' := whole_any 1 4 w (by omega) (by omega) (by omega) (by omega)
theorem wh_2_4 (w : World) : Calls Tryd.prog 5 #[.int .i64 2, .int .i64 4] w fun e w' => e = .returned (.agg #[.int .i64 8589934592, .int .i64 17179869184]) ∧ Below w.heap.size w w' := whole_any 2 4 w (by omega) (by omega) (by omega) (by omega)
theorem wh_1_5 (w : World) : Calls Tryd.prog 5 #[.int .i64 1, .int .i64 5] w fun e w' => e = .returned (.agg #[.int .i64 4294967296, .int .i64 21474836480]) ∧ Below w.heap.size w w' := whole_any 1 5 w (by omega) (by omega) (by omega) (by omega)
theorem wh_4_5 (w : World) : Calls Tryd.prog 5 #[.int .i64 4, .int .i64 5] w fun e w' => e = .returned (.agg #[.int .i64 17179869184, .int .i64 21474836480]) ∧ Below w.heap.size w w' := whole_any 4 5 w (by omega) (by omega) (by omega) (by omega)
theorem wh_1048576_1048576 (w : World) : Calls Tryd.prog 5 #[.int .i64 1048576, .int .i64 1048576] w fun e w' => e = .returned (.agg #[.int .i64 4503599627370496, .int .i64 4503599627370496]) ∧ Below w.heap.size w w' := whole_any 1048576 1048576 w (by omega) (by omega) (by omega) (by omega)
theorem wh_1_1 (w : World) : Calls Tryd.prog 5 #[.int .i64 1, .int .i64 1] w fun e w' => e = .returned (.agg #[.int .i64 4294967296, .int .i64 4294967296]) ∧ Below w.heap.size w w' := whole_any 1 1 w (by omega) (by omega) (by omega) (by omega)
theorem wh_1_65536 (w : World) : Calls Tryd.prog 5 #[.int .i64 1, .int .i64 65536] w fun e w' => e = .returned (.agg #[.int .i64 4294967296, .int .i64 281474976710656]) ∧ Below w.heap.size w w' := whole_any 1 65536 w (by omega) (by omega) (by omega) (by omega)
theorem wh_0_1048576 (w : World) : Calls Tryd.prog 5 #[.int .i64 0, .int .i64 1048576] w fun e w' => e = .returned (.agg #[.int .i64 0, .int .i64 4503599627370496]) ∧ Below w.heap.size w w' := whole_any 0 1048576 w (by omega) (by omega) (by omega) (by omega)
theorem wh_m1024_1 (w : World) : Calls Tryd.prog 5 #[.int .i64 (-1024), .int .i64 1] w fun e w' => e = .returned (.agg #[.int .i64 (-4398046511104), .int .i64 4294967296]) ∧ Below w.heap.size w w' := whole_any (-1024) 1 w (by omega) (by omega) (by omega) (by omega)
theorem wh_m1025_1 (w : World) : Calls Tryd.prog 5 #[.int .i64 (-1025), .int .i64 1] w fun e w' => e = .returned (.agg #[.int .i64 (-4402341478400), .int .i64 4294967296]) ∧ Below w.heap.size w w' := whole_any (-1025) 1 w (by omega) (by omega) (by omega) (by omega)
theorem qu_m4_m1 (w : World) : Calls Tryd.prog 15 #[.int .i64 (-4), .int .i64 (-1)] w fun e w' => e = .returned (.agg #[.int .i64 (-4294967296), .int .i64 (-1073741824)]) ∧ Below w.heap.size w w' := of_any (-4) (-1) w (by omega) (by omega) (by omega) (by omega)
theorem qu_m6_m4 (w : World) : Calls Tryd.prog 15 #[.int .i64 (-6), .int .i64 (-4)] w fun e w' => e = .returned (.agg #[.int .i64 (-6442450944), .int .i64 (-4294967296)]) ∧ Below w.heap.size w w' := of_any (-6) (-4) w (by omega) (by omega) (by omega) (by omega)
theorem qu_m2_1 (w : World) : Calls Tryd.prog 15 #[.int .i64 (-2), .int .i64 1] w fun e w' => e = .returned (.agg #[.int .i64 (-2147483648), .int .i64 1073741824]) ∧ Below w.heap.size w w' := of_any (-2) 1 w (by omega) (by omega) (by omega) (by omega)
theorem xsAdd_4294967296_8589934592_12884901888_17179869184 (w : World) : Calls Tryd.prog 10 #[.agg #[.int .i64 4294967296, .int .i64 8589934592], .agg #[.int .i64 12884901888, .int .i64 17179869184]] w fun e w' => e = .returned (.tuple #[.agg #[.int .i64 17179869184, .int .i64 25769803776], .int .i64 0]) ∧ Below w.heap.size w w' := by
  have h := sAdd_any 4294967296 8589934592 12884901888 17179869184 w
  rw [show sAddR 4294967296 8589934592 12884901888 17179869184 = (17179869184, 25769803776, 0) by decide +kernel] at h
  exact h
theorem xsSub_4294967296_8589934592_12884901888_17179869184 (w : World) : Calls Tryd.prog 28 #[.agg #[.int .i64 4294967296, .int .i64 8589934592], .agg #[.int .i64 12884901888, .int .i64 17179869184]] w fun e w' => e = .returned (.tuple #[.agg #[.int .i64 (-12884901888), .int .i64 (-4294967296)], .int .i64 0]) ∧ Below w.heap.size w w' := by
  have h := sSub_any 4294967296 8589934592 12884901888 17179869184 w
  rw [show sSubR 4294967296 8589934592 12884901888 17179869184 = ((-12884901888), (-4294967296), 0) by decide +kernel] at h
  exact h
theorem xsNeg_4294967296_8589934592 (w : World) : Calls Tryd.prog 8 #[.agg #[.int .i64 4294967296, .int .i64 8589934592]] w fun e w' => e = .returned (.tuple #[.agg #[.int .i64 (-8589934592), .int .i64 (-4294967296)], .int .i64 0]) ∧ Below w.heap.size w w' := by
  have h := sNeg_any 4294967296 8589934592 w
  rw [show sNegR 4294967296 8589934592 = ((-8589934592), (-4294967296), 0) by decide +kernel] at h
  exact h
theorem xsMul_m4294967296_8589934592_m12884901888_17179869184 (w : World) : Calls Tryd.prog 12 #[.agg #[.int .i64 (-4294967296), .int .i64 8589934592], .agg #[.int .i64 (-12884901888), .int .i64 17179869184]] w fun e w' => e = .returned (.tuple #[.agg #[.int .i64 (-25769803776), .int .i64 34359738368], .int .i64 0]) ∧ Below w.heap.size w w' := by
  have h := sMul_any (-4294967296) 8589934592 (-12884901888) 17179869184 w
  rw [show sMulR (-4294967296) 8589934592 (-12884901888) 17179869184 = ((-25769803776), 34359738368, 0) by decide +kernel] at h
  exact h
theorem xsSqr_m4294967296_8589934592 (w : World) : Calls Tryd.prog 13 #[.agg #[.int .i64 (-4294967296), .int .i64 8589934592]] w fun e w' => e = .returned (.tuple #[.agg #[.int .i64 0, .int .i64 17179869184], .int .i64 0]) ∧ Below w.heap.size w w' := by
  have h := sSqr_any (-4294967296) 8589934592 w
  rw [show sSqrR (-4294967296) 8589934592 = (0, 17179869184, 0) by decide +kernel] at h
  exact h
theorem xsPow_m8589934592_4294967296_3 (w : World) : Calls Tryd.prog 14 #[.agg #[.int .i64 (-8589934592), .int .i64 4294967296], .int .i64 3] w fun e w' => e = .returned (.tuple #[.agg #[.int .i64 (-34359738368), .int .i64 4294967296], .int .i64 0]) ∧ Below w.heap.size w w' := by
  have h := sPow_any (-8589934592) 4294967296 3 w
  rw [show sPowR (-8589934592) 4294967296 3 = ((-34359738368), 4294967296, 0) by decide +kernel] at h
  exact h
theorem xsDiv_4294967296_8589934592_m17179869184_m8589934592 (w : World) : Calls Tryd.prog 16 #[.agg #[.int .i64 4294967296, .int .i64 8589934592], .agg #[.int .i64 (-17179869184), .int .i64 (-8589934592)]] w fun e w' => e = .returned (.tuple #[.agg #[.int .i64 (-4294967296), .int .i64 (-1073741824)], .int .i64 0]) ∧ Below w.heap.size w w' := by
  have h := sDiv_any 4294967296 8589934592 (-17179869184) (-8589934592) w
  rw [show sDivR 4294967296 8589934592 (-17179869184) (-8589934592) = ((-4294967296), (-1073741824), 0) by decide +kernel] at h
  exact h
theorem xsDiv_4294967296_8589934592_0_4294967296 (w : World) : Calls Tryd.prog 16 #[.agg #[.int .i64 4294967296, .int .i64 8589934592], .agg #[.int .i64 0, .int .i64 4294967296]] w fun e w' => e = .returned (.tuple #[.agg #[.int .i64 0, .int .i64 0], .int .i64 7]) ∧ Below w.heap.size w w' := by
  have h := sDiv_any 4294967296 8589934592 0 4294967296 w
  rw [show sDivR 4294967296 8589934592 0 4294967296 = (0, 0, 7) by decide +kernel] at h
  exact h
theorem xsSqrt_17179869184_38654705664 (w : World) : Calls Tryd.prog 17 #[.agg #[.int .i64 17179869184, .int .i64 38654705664]] w fun e w' => e = .returned (.tuple #[.agg #[.int .i64 8589934592, .int .i64 12884901888], .int .i64 0]) ∧ Below w.heap.size w w' := by
  have h := sSqrt_any 17179869184 38654705664 w
  rw [show sSqrtR 17179869184 38654705664 = (8589934592, 12884901888, 0) by (unfold sSqrtR; rw [if_pos (by decide +kernel), show sqrtR false 17179869184 = (8589934592, 0) from sqrtR_down _ _ (by omega) (by omega) (by omega) (by omega) (by omega), show sqrtR true 38654705664 = (12884901888, 0) from sqrtR_up_exact _ _ (by omega) (by omega) (by omega) (by omega)]; rfl)] at h
  exact h
theorem xsScale_8589934592_12884901888_m1_2 (w : World) : Calls Tryd.prog 18 #[.agg #[.int .i64 8589934592, .int .i64 12884901888], .int .i64 (-1), .int .i64 2] w fun e w' => e = .returned (.tuple #[.agg #[.int .i64 (-6442450944), .int .i64 (-4294967296)], .int .i64 0]) ∧ Below w.heap.size w w' := by
  have h := sScale_any 8589934592 12884901888 (-1) 2 w (by omega) (by omega)
  rw [show sScaleR 8589934592 12884901888 (-1) 2 = ((-6442450944), (-4294967296), 0) by decide +kernel] at h
  exact h
theorem xsAbs_m12884901888_8589934592 (w : World) : Calls Tryd.prog 11 #[.agg #[.int .i64 (-12884901888), .int .i64 8589934592]] w fun e w' => e = .returned (.tuple #[.agg #[.int .i64 0, .int .i64 12884901888], .int .i64 0]) ∧ Below w.heap.size w w' := by
  have h := sAbs_any (-12884901888) 8589934592 w
  rw [show sAbsR (-12884901888) 8589934592 = (0, 12884901888, 0) by decide +kernel] at h
  exact h
theorem xsMin_4294967296_17179869184_8589934592_12884901888 (w : World) : Calls Tryd.prog 29 #[.agg #[.int .i64 4294967296, .int .i64 17179869184], .agg #[.int .i64 8589934592, .int .i64 12884901888]] w fun e w' => e = .returned (.tuple #[.agg #[.int .i64 4294967296, .int .i64 12884901888], .int .i64 0]) ∧ Below w.heap.size w w' := by
  have h := sMin_any 4294967296 17179869184 8589934592 12884901888 w
  rw [show sMinR 4294967296 17179869184 8589934592 12884901888 = (4294967296, 12884901888, 0) by decide +kernel] at h
  exact h
theorem xsMax_4294967296_17179869184_8589934592_12884901888 (w : World) : Calls Tryd.prog 30 #[.agg #[.int .i64 4294967296, .int .i64 17179869184], .agg #[.int .i64 8589934592, .int .i64 12884901888]] w fun e w' => e = .returned (.tuple #[.agg #[.int .i64 8589934592, .int .i64 17179869184], .int .i64 0]) ∧ Below w.heap.size w w' := by
  have h := sMax_any 4294967296 17179869184 8589934592 12884901888 w
  rw [show sMaxR 4294967296 17179869184 8589934592 12884901888 = (8589934592, 17179869184, 0) by decide +kernel] at h
  exact h
theorem xsHull_4294967296_8589934592_17179869184_21474836480 (w : World) : Calls Tryd.prog 31 #[.agg #[.int .i64 4294967296, .int .i64 8589934592], .agg #[.int .i64 17179869184, .int .i64 21474836480]] w fun e w' => e = .returned (.tuple #[.agg #[.int .i64 4294967296, .int .i64 21474836480], .int .i64 0]) ∧ Below w.heap.size w w' := by
  have h := sHull_any 4294967296 8589934592 17179869184 21474836480 w
  rw [show sHullR 4294967296 8589934592 17179869184 21474836480 = (4294967296, 21474836480, 0) by decide +kernel] at h
  exact h
theorem xsMeet_4294967296_8589934592_17179869184_21474836480 (w : World) : Calls Tryd.prog 19 #[.agg #[.int .i64 4294967296, .int .i64 8589934592], .agg #[.int .i64 17179869184, .int .i64 21474836480]] w fun e w' => e = .returned (.tuple #[.agg #[.int .i64 0, .int .i64 0], .int .i64 4]) ∧ Below w.heap.size w w' := by
  have h := sMeet_any 4294967296 8589934592 17179869184 21474836480 w
  rw [show sMeetR 4294967296 8589934592 17179869184 21474836480 = (0, 0, 4) by decide +kernel] at h
  exact h
theorem xsMid_4294967296_8589934592 (w : World) : Calls Tryd.prog 21 #[.agg #[.int .i64 4294967296, .int .i64 8589934592]] w fun e w' => e = .returned (.tuple #[.int .i64 6442450944, .int .i64 0]) ∧ Below w.heap.size w w' := by
  have h := sMid_any 4294967296 8589934592 w
  rw [show sMidR 4294967296 8589934592 = (6442450944, 0) by decide +kernel] at h
  exact h
theorem xsWidth_4294967296_8589934592 (w : World) : Calls Tryd.prog 22 #[.agg #[.int .i64 4294967296, .int .i64 8589934592]] w fun e w' => e = .returned (.tuple #[.int .i64 4294967296, .int .i64 0]) ∧ Below w.heap.size w w' := by
  have h := sWidth_any 4294967296 8589934592 w
  rw [show sWidthR 4294967296 8589934592 = (4294967296, 0) by decide +kernel] at h
  exact h
theorem xsSign_0_4294967296 (w : World) : Calls Tryd.prog 23 #[.agg #[.int .i64 0, .int .i64 4294967296]] w fun e w' => e = .returned (.tuple #[.int .i64 2, .int .i64 0]) ∧ Below w.heap.size w w' := by
  have h := sSign_any 0 4294967296 w
  rw [show sSignR 0 4294967296 = (2, 0) by decide +kernel] at h
  exact h
theorem xsSign_0_0 (w : World) : Calls Tryd.prog 23 #[.agg #[.int .i64 0, .int .i64 0]] w fun e w' => e = .returned (.tuple #[.int .i64 0, .int .i64 0]) ∧ Below w.heap.size w w' := by
  have h := sSign_any 0 0 w
  rw [show sSignR 0 0 = (0, 0) by decide +kernel] at h
  exact h
theorem xsOf_2_1 (w : World) : Calls Tryd.prog 32 #[.int .i64 2, .int .i64 1] w fun e w' => e = .returned (.tuple #[.agg #[.int .i64 0, .int .i64 0], .int .i64 20]) ∧ Below w.heap.size w w' := by
  have h := sOf_any 2 1 w
  rw [show ofR 2 1 = (0, 0, 20) by decide +kernel] at h
  exact h
theorem xsPoint_4503599627370497 (w : World) : Calls Tryd.prog 33 #[.int .i64 4503599627370497] w fun e w' => e = .returned (.tuple #[.agg #[.int .i64 0, .int .i64 0], .int .i64 20]) ∧ Below w.heap.size w w' := by
  have h := sPoint_any 4503599627370497 w
  rw [show ofR 4503599627370497 4503599627370497 = (0, 0, 20) by decide +kernel] at h
  exact h
theorem xsDec_1_1 (w : World) (ht : Tens w) : Calls Tryd.prog 24 #[.int .i64 1, .int .i64 1] w fun e w' => e = .returned (.tuple #[.agg #[.int .i64 429496729, .int .i64 429496730], .int .i64 0]) ∧ Below w.heap.size w w' := by
  have h := sDec_any 1 1 w ht (by omega) (by omega)
  rw [show sDecR 1 1 = (429496729, 429496730, 0) by decide +kernel] at h
  exact h
theorem xsMul_4503599627370496_4503599627370496_m4294967296_8589934592 (w : World) : Calls Tryd.prog 12 #[.agg #[.int .i64 4503599627370496, .int .i64 4503599627370496], .agg #[.int .i64 (-4294967296), .int .i64 8589934592]] w fun e w' => e = .returned (.tuple #[.agg #[.int .i64 0, .int .i64 0], .int .i64 6]) ∧ Below w.heap.size w w' := by
  have h := sMul_any 4503599627370496 4503599627370496 (-4294967296) 8589934592 w
  rw [show sMulR 4503599627370496 4503599627370496 (-4294967296) 8589934592 = (0, 0, 6) by decide +kernel] at h
  exact h
theorem xsPow_4294967296_8589934592_17 (w : World) : Calls Tryd.prog 14 #[.agg #[.int .i64 4294967296, .int .i64 8589934592], .int .i64 17] w fun e w' => e = .returned (.tuple #[.agg #[.int .i64 0, .int .i64 0], .int .i64 2]) ∧ Below w.heap.size w w' := by
  have h := sPow_any 4294967296 8589934592 17 w
  rw [show sPowR 4294967296 8589934592 17 = (0, 0, 2) by decide +kernel] at h
  exact h
theorem xsCheck_m4503599627370496_4503599627370496 (w : World) : Calls Tryd.prog 6 #[.agg #[.int .i64 (-4503599627370496), .int .i64 4503599627370496]] w fun e w' => e = .returned (.int .i64 0) ∧ Below w.heap.size w w' := by
  have h := sCheck_any (-4503599627370496) 4503599627370496 w
  rw [show ckS (-4503599627370496) 4503599627370496 = 0 by decide +kernel] at h
  exact h
theorem xsCheck_1_0 (w : World) : Calls Tryd.prog 6 #[.agg #[.int .i64 1, .int .i64 0]] w fun e w' => e = .returned (.int .i64 20) ∧ Below w.heap.size w w' := by
  have h := sCheck_any 1 0 w
  rw [show ckS 1 0 = 20 by decide +kernel] at h
  exact h
theorem xsCheck_m4503599627370497_0 (w : World) : Calls Tryd.prog 6 #[.agg #[.int .i64 (-4503599627370497), .int .i64 0]] w fun e w' => e = .returned (.int .i64 20) ∧ Below w.heap.size w w' := by
  have h := sCheck_any (-4503599627370497) 0 w
  rw [show ckS (-4503599627370497) 0 = 20 by decide +kernel] at h
  exact h
theorem xsCheck_0_4503599627370497 (w : World) : Calls Tryd.prog 6 #[.agg #[.int .i64 0, .int .i64 4503599627370497]] w fun e w' => e = .returned (.int .i64 20) ∧ Below w.heap.size w w' := by
  have h := sCheck_any 0 4503599627370497 w
  rw [show ckS 0 4503599627370497 = 20 by decide +kernel] at h
  exact h
theorem xsNeg_m4503599627370496_4503599627370496 (w : World) : Calls Tryd.prog 8 #[.agg #[.int .i64 (-4503599627370496), .int .i64 4503599627370496]] w fun e w' => e = .returned (.tuple #[.agg #[.int .i64 (-4503599627370496), .int .i64 4503599627370496], .int .i64 0]) ∧ Below w.heap.size w w' := by
  have h := sNeg_any (-4503599627370496) 4503599627370496 w
  rw [show sNegR (-4503599627370496) 4503599627370496 = ((-4503599627370496), 4503599627370496, 0) by decide +kernel] at h
  exact h
theorem xsAdd_m4503599627370496_4503599627370496_0_1 (w : World) : Calls Tryd.prog 10 #[.agg #[.int .i64 (-4503599627370496), .int .i64 4503599627370496], .agg #[.int .i64 0, .int .i64 1]] w fun e w' => e = .returned (.tuple #[.agg #[.int .i64 0, .int .i64 0], .int .i64 6]) ∧ Below w.heap.size w w' := by
  have h := sAdd_any (-4503599627370496) 4503599627370496 0 1 w
  rw [show sAddR (-4503599627370496) 4503599627370496 0 1 = (0, 0, 6) by decide +kernel] at h
  exact h
theorem xsAdd_m4503599627370496_4503599627370496_0_0 (w : World) : Calls Tryd.prog 10 #[.agg #[.int .i64 (-4503599627370496), .int .i64 4503599627370496], .agg #[.int .i64 0, .int .i64 0]] w fun e w' => e = .returned (.tuple #[.agg #[.int .i64 (-4503599627370496), .int .i64 4503599627370496], .int .i64 0]) ∧ Below w.heap.size w w' := by
  have h := sAdd_any (-4503599627370496) 4503599627370496 0 0 w
  rw [show sAddR (-4503599627370496) 4503599627370496 0 0 = ((-4503599627370496), 4503599627370496, 0) by decide +kernel] at h
  exact h
theorem xsAdd_m4503599627370496_4503599627370496_1_0 (w : World) : Calls Tryd.prog 10 #[.agg #[.int .i64 (-4503599627370496), .int .i64 4503599627370496], .agg #[.int .i64 1, .int .i64 0]] w fun e w' => e = .returned (.tuple #[.agg #[.int .i64 0, .int .i64 0], .int .i64 20]) ∧ Below w.heap.size w w' := by
  have h := sAdd_any (-4503599627370496) 4503599627370496 1 0 w
  rw [show sAddR (-4503599627370496) 4503599627370496 1 0 = (0, 0, 20) by decide +kernel] at h
  exact h
theorem xsAbs_m4503599627370496_4503599627370496 (w : World) : Calls Tryd.prog 11 #[.agg #[.int .i64 (-4503599627370496), .int .i64 4503599627370496]] w fun e w' => e = .returned (.tuple #[.agg #[.int .i64 0, .int .i64 4503599627370496], .int .i64 0]) ∧ Below w.heap.size w w' := by
  have h := sAbs_any (-4503599627370496) 4503599627370496 w
  rw [show sAbsR (-4503599627370496) 4503599627370496 = (0, 4503599627370496, 0) by decide +kernel] at h
  exact h
theorem xsMul_m1_1_4294967296_4294967296 (w : World) : Calls Tryd.prog 12 #[.agg #[.int .i64 (-1), .int .i64 1], .agg #[.int .i64 4294967296, .int .i64 4294967296]] w fun e w' => e = .returned (.tuple #[.agg #[.int .i64 (-1), .int .i64 1], .int .i64 0]) ∧ Below w.heap.size w w' := by
  have h := sMul_any (-1) 1 4294967296 4294967296 w
  rw [show sMulR (-1) 1 4294967296 4294967296 = ((-1), 1, 0) by decide +kernel] at h
  exact h
theorem xsMul_1_1_1_1 (w : World) : Calls Tryd.prog 12 #[.agg #[.int .i64 1, .int .i64 1], .agg #[.int .i64 1, .int .i64 1]] w fun e w' => e = .returned (.tuple #[.agg #[.int .i64 0, .int .i64 1], .int .i64 0]) ∧ Below w.heap.size w w' := by
  have h := sMul_any 1 1 1 1 w
  rw [show sMulR 1 1 1 1 = (0, 1, 0) by decide +kernel] at h
  exact h
theorem xsSqr_m1_1 (w : World) : Calls Tryd.prog 13 #[.agg #[.int .i64 (-1), .int .i64 1]] w fun e w' => e = .returned (.tuple #[.agg #[.int .i64 0, .int .i64 1], .int .i64 0]) ∧ Below w.heap.size w w' := by
  have h := sSqr_any (-1) 1 w
  rw [show sSqrR (-1) 1 = (0, 1, 0) by decide +kernel] at h
  exact h
theorem xsPow_m1_1_3 (w : World) : Calls Tryd.prog 14 #[.agg #[.int .i64 (-1), .int .i64 1], .int .i64 3] w fun e w' => e = .returned (.tuple #[.agg #[.int .i64 (-1), .int .i64 1], .int .i64 0]) ∧ Below w.heap.size w w' := by
  have h := sPow_any (-1) 1 3 w
  rw [show sPowR (-1) 1 3 = ((-1), 1, 0) by decide +kernel] at h
  exact h
theorem xsPow_4294967296_8589934592_16 (w : World) : Calls Tryd.prog 14 #[.agg #[.int .i64 4294967296, .int .i64 8589934592], .int .i64 16] w fun e w' => e = .returned (.tuple #[.agg #[.int .i64 4294967296, .int .i64 281474976710656], .int .i64 0]) ∧ Below w.heap.size w w' := by
  have h := sPow_any 4294967296 8589934592 16 w
  rw [show sPowR 4294967296 8589934592 16 = (4294967296, 281474976710656, 0) by decide +kernel] at h
  exact h
theorem xsPow_4294967296_12884901888_16 (w : World) : Calls Tryd.prog 14 #[.agg #[.int .i64 4294967296, .int .i64 12884901888], .int .i64 16] w fun e w' => e = .returned (.tuple #[.agg #[.int .i64 0, .int .i64 0], .int .i64 6]) ∧ Below w.heap.size w w' := by
  have h := sPow_any 4294967296 12884901888 16 w
  rw [show sPowR 4294967296 12884901888 16 = (0, 0, 6) by decide +kernel] at h
  exact h
theorem xsPow_m4503599627370496_4503599627370496_0 (w : World) : Calls Tryd.prog 14 #[.agg #[.int .i64 (-4503599627370496), .int .i64 4503599627370496], .int .i64 0] w fun e w' => e = .returned (.tuple #[.agg #[.int .i64 4294967296, .int .i64 4294967296], .int .i64 0]) ∧ Below w.heap.size w w' := by
  have h := sPow_any (-4503599627370496) 4503599627370496 0 w
  rw [show sPowR (-4503599627370496) 4503599627370496 0 = (4294967296, 4294967296, 0) by decide +kernel] at h
  exact h
theorem xsPow_m4503599627370496_4503599627370496_m1 (w : World) : Calls Tryd.prog 14 #[.agg #[.int .i64 (-4503599627370496), .int .i64 4503599627370496], .int .i64 (-1)] w fun e w' => e = .returned (.tuple #[.agg #[.int .i64 0, .int .i64 0], .int .i64 2]) ∧ Below w.heap.size w w' := by
  have h := sPow_any (-4503599627370496) 4503599627370496 (-1) w
  rw [show sPowR (-4503599627370496) 4503599627370496 (-1) = (0, 0, 2) by decide +kernel] at h
  exact h
theorem xsPow_1_0_m1 (w : World) : Calls Tryd.prog 14 #[.agg #[.int .i64 1, .int .i64 0], .int .i64 (-1)] w fun e w' => e = .returned (.tuple #[.agg #[.int .i64 0, .int .i64 0], .int .i64 20]) ∧ Below w.heap.size w w' := by
  have h := sPow_any 1 0 (-1) w
  rw [show sPowR 1 0 (-1) = (0, 0, 20) by decide +kernel] at h
  exact h
theorem xsPow_m4503599627370496_4503599627370496_1 (w : World) : Calls Tryd.prog 14 #[.agg #[.int .i64 (-4503599627370496), .int .i64 4503599627370496], .int .i64 1] w fun e w' => e = .returned (.tuple #[.agg #[.int .i64 (-4503599627370496), .int .i64 4503599627370496], .int .i64 0]) ∧ Below w.heap.size w w' := by
  have h := sPow_any (-4503599627370496) 4503599627370496 1 w
  rw [show sPowR (-4503599627370496) 4503599627370496 1 = ((-4503599627370496), 4503599627370496, 0) by decide +kernel] at h
  exact h
theorem xsPow_m2147483648_1073741824_1 (w : World) : Calls Tryd.prog 14 #[.agg #[.int .i64 (-2147483648), .int .i64 1073741824], .int .i64 1] w fun e w' => e = .returned (.tuple #[.agg #[.int .i64 (-2147483648), .int .i64 1073741824], .int .i64 0]) ∧ Below w.heap.size w w' := by
  have h := sPow_any (-2147483648) 1073741824 1 w
  rw [show sPowR (-2147483648) 1073741824 1 = ((-2147483648), 1073741824, 0) by decide +kernel] at h
  exact h
theorem xsSqr_m4398046511104_4294967296 (w : World) : Calls Tryd.prog 13 #[.agg #[.int .i64 (-4398046511104), .int .i64 4294967296]] w fun e w' => e = .returned (.tuple #[.agg #[.int .i64 0, .int .i64 4503599627370496], .int .i64 0]) ∧ Below w.heap.size w w' := by
  have h := sSqr_any (-4398046511104) 4294967296 w
  rw [show sSqrR (-4398046511104) 4294967296 = (0, 4503599627370496, 0) by decide +kernel] at h
  exact h
theorem xsSqr_m4402341478400_4294967296 (w : World) : Calls Tryd.prog 13 #[.agg #[.int .i64 (-4402341478400), .int .i64 4294967296]] w fun e w' => e = .returned (.tuple #[.agg #[.int .i64 0, .int .i64 0], .int .i64 6]) ∧ Below w.heap.size w w' := by
  have h := sSqr_any (-4402341478400) 4294967296 w
  rw [show sSqrR (-4402341478400) 4294967296 = (0, 0, 6) by decide +kernel] at h
  exact h
theorem xsDiv_1_0_0_4294967296 (w : World) : Calls Tryd.prog 16 #[.agg #[.int .i64 1, .int .i64 0], .agg #[.int .i64 0, .int .i64 4294967296]] w fun e w' => e = .returned (.tuple #[.agg #[.int .i64 0, .int .i64 0], .int .i64 20]) ∧ Below w.heap.size w w' := by
  have h := sDiv_any 1 0 0 4294967296 w
  rw [show sDivR 1 0 0 4294967296 = (0, 0, 20) by decide +kernel] at h
  exact h
theorem xsDiv_4294967296_4294967296_0_0 (w : World) : Calls Tryd.prog 16 #[.agg #[.int .i64 4294967296, .int .i64 4294967296], .agg #[.int .i64 0, .int .i64 0]] w fun e w' => e = .returned (.tuple #[.agg #[.int .i64 0, .int .i64 0], .int .i64 7]) ∧ Below w.heap.size w w' := by
  have h := sDiv_any 4294967296 4294967296 0 0 w
  rw [show sDivR 4294967296 4294967296 0 0 = (0, 0, 7) by decide +kernel] at h
  exact h
theorem xsDiv_4294967296_4294967296_m4503599627370496_4503599627370496 (w : World) : Calls Tryd.prog 16 #[.agg #[.int .i64 4294967296, .int .i64 4294967296], .agg #[.int .i64 (-4503599627370496), .int .i64 4503599627370496]] w fun e w' => e = .returned (.tuple #[.agg #[.int .i64 0, .int .i64 0], .int .i64 7]) ∧ Below w.heap.size w w' := by
  have h := sDiv_any 4294967296 4294967296 (-4503599627370496) 4503599627370496 w
  rw [show sDivR 4294967296 4294967296 (-4503599627370496) 4503599627370496 = (0, 0, 7) by decide +kernel] at h
  exact h
theorem xsDiv_4294967296_4294967296_1_2 (w : World) : Calls Tryd.prog 16 #[.agg #[.int .i64 4294967296, .int .i64 4294967296], .agg #[.int .i64 1, .int .i64 2]] w fun e w' => e = .returned (.tuple #[.agg #[.int .i64 0, .int .i64 0], .int .i64 6]) ∧ Below w.heap.size w w' := by
  have h := sDiv_any 4294967296 4294967296 1 2 w
  rw [show sDivR 4294967296 4294967296 1 2 = (0, 0, 6) by decide +kernel] at h
  exact h
theorem xsSqrt_m1_0 (w : World) : Calls Tryd.prog 17 #[.agg #[.int .i64 (-1), .int .i64 0]] w fun e w' => e = .returned (.tuple #[.agg #[.int .i64 0, .int .i64 0], .int .i64 2]) ∧ Below w.heap.size w w' := by
  have h := sSqrt_any (-1) 0 w
  rw [show sSqrtR (-1) 0 = (0, 0, 2) by (unfold sSqrtR; rw [if_pos (by decide +kernel), show sqrtR false (-1) = (0, 2) by (unfold sqrtR; rw [if_neg (by omega)])]; rfl)] at h
  exact h
theorem xsSqrt_0_0 (w : World) : Calls Tryd.prog 17 #[.agg #[.int .i64 0, .int .i64 0]] w fun e w' => e = .returned (.tuple #[.agg #[.int .i64 0, .int .i64 0], .int .i64 0]) ∧ Below w.heap.size w w' := by
  have h := sSqrt_any 0 0 w
  rw [show sSqrtR 0 0 = (0, 0, 0) by (unfold sSqrtR; rw [if_pos (by decide +kernel), show sqrtR false 0 = (0, 0) from sqrtR_down _ _ (by omega) (by omega) (by omega) (by omega) (by omega), show sqrtR true 0 = (0, 0) from sqrtR_up_exact _ _ (by omega) (by omega) (by omega) (by omega)]; rfl)] at h
  exact h
theorem xsSqrt_0_4503599627370496 (w : World) : Calls Tryd.prog 17 #[.agg #[.int .i64 0, .int .i64 4503599627370496]] w fun e w' => e = .returned (.tuple #[.agg #[.int .i64 0, .int .i64 4398046511104], .int .i64 0]) ∧ Below w.heap.size w w' := by
  have h := sSqrt_any 0 4503599627370496 w
  rw [show sSqrtR 0 4503599627370496 = (0, 4398046511104, 0) by (unfold sSqrtR; rw [if_pos (by decide +kernel), show sqrtR false 0 = (0, 0) from sqrtR_down _ _ (by omega) (by omega) (by omega) (by omega) (by omega), show sqrtR true 4503599627370496 = (4398046511104, 0) from sqrtR_up_exact _ _ (by omega) (by omega) (by omega) (by omega)]; rfl)] at h
  exact h
theorem xsScale_m4503599627370496_4503599627370496_0_1 (w : World) : Calls Tryd.prog 18 #[.agg #[.int .i64 (-4503599627370496), .int .i64 4503599627370496], .int .i64 0, .int .i64 1] w fun e w' => e = .returned (.tuple #[.agg #[.int .i64 0, .int .i64 0], .int .i64 0]) ∧ Below w.heap.size w w' := by
  have h := sScale_any (-4503599627370496) 4503599627370496 0 1 w (by omega) (by omega)
  rw [show sScaleR (-4503599627370496) 4503599627370496 0 1 = (0, 0, 0) by decide +kernel] at h
  exact h
theorem xsScale_m4503599627370496_4503599627370496_m7_7 (w : World) : Calls Tryd.prog 18 #[.agg #[.int .i64 (-4503599627370496), .int .i64 4503599627370496], .int .i64 (-7), .int .i64 7] w fun e w' => e = .returned (.tuple #[.agg #[.int .i64 (-4503599627370496), .int .i64 4503599627370496], .int .i64 0]) ∧ Below w.heap.size w w' := by
  have h := sScale_any (-4503599627370496) 4503599627370496 (-7) 7 w (by omega) (by omega)
  rw [show sScaleR (-4503599627370496) 4503599627370496 (-7) 7 = ((-4503599627370496), 4503599627370496, 0) by decide +kernel] at h
  exact h
theorem xsScale_4294967296_4294967296_1_0 (w : World) : Calls Tryd.prog 18 #[.agg #[.int .i64 4294967296, .int .i64 4294967296], .int .i64 1, .int .i64 0] w fun e w' => e = .returned (.tuple #[.agg #[.int .i64 0, .int .i64 0], .int .i64 2]) ∧ Below w.heap.size w w' := by
  have h := sScale_any 4294967296 4294967296 1 0 w (by omega) (by omega)
  rw [show sScaleR 4294967296 4294967296 1 0 = (0, 0, 2) by decide +kernel] at h
  exact h
theorem xsScale_4294967296_4294967296_m9223372036854775808_1 (w : World) : Calls Tryd.prog 18 #[.agg #[.int .i64 4294967296, .int .i64 4294967296], .int .i64 (-9223372036854775808), .int .i64 1] w fun e w' => e = .returned (.tuple #[.agg #[.int .i64 0, .int .i64 0], .int .i64 2]) ∧ Below w.heap.size w w' := by
  have h := sScale_any 4294967296 4294967296 (-9223372036854775808) 1 w (by omega) (by omega)
  rw [show sScaleR 4294967296 4294967296 (-9223372036854775808) 1 = (0, 0, 2) by decide +kernel] at h
  exact h
theorem xsScale_m4503599627370496_4503599627370496_2_1 (w : World) : Calls Tryd.prog 18 #[.agg #[.int .i64 (-4503599627370496), .int .i64 4503599627370496], .int .i64 2, .int .i64 1] w fun e w' => e = .returned (.tuple #[.agg #[.int .i64 0, .int .i64 0], .int .i64 6]) ∧ Below w.heap.size w w' := by
  have h := sScale_any (-4503599627370496) 4503599627370496 2 1 w (by omega) (by omega)
  rw [show sScaleR (-4503599627370496) 4503599627370496 2 1 = (0, 0, 6) by decide +kernel] at h
  exact h
theorem xsScale_m1_0_1_4611686018427387904 (w : World) : Calls Tryd.prog 18 #[.agg #[.int .i64 (-1), .int .i64 0], .int .i64 1, .int .i64 4611686018427387904] w fun e w' => e = .returned (.tuple #[.agg #[.int .i64 (-1), .int .i64 0], .int .i64 0]) ∧ Below w.heap.size w w' := by
  have h := sScale_any (-1) 0 1 4611686018427387904 w (by omega) (by omega)
  rw [show sScaleR (-1) 0 1 4611686018427387904 = ((-1), 0, 0) by decide +kernel] at h
  exact h
theorem xsScale_1_0_1_0 (w : World) : Calls Tryd.prog 18 #[.agg #[.int .i64 1, .int .i64 0], .int .i64 1, .int .i64 0] w fun e w' => e = .returned (.tuple #[.agg #[.int .i64 0, .int .i64 0], .int .i64 20]) ∧ Below w.heap.size w w' := by
  have h := sScale_any 1 0 1 0 w (by omega) (by omega)
  rw [show sScaleR 1 0 1 0 = (0, 0, 20) by decide +kernel] at h
  exact h
theorem xsMeet_2_5_5_9 (w : World) : Calls Tryd.prog 19 #[.agg #[.int .i64 2, .int .i64 5], .agg #[.int .i64 5, .int .i64 9]] w fun e w' => e = .returned (.tuple #[.agg #[.int .i64 5, .int .i64 5], .int .i64 0]) ∧ Below w.heap.size w w' := by
  have h := sMeet_any 2 5 5 9 w
  rw [show sMeetR 2 5 5 9 = (5, 5, 0) by decide +kernel] at h
  exact h
theorem xsMeet_0_0_1_0 (w : World) : Calls Tryd.prog 19 #[.agg #[.int .i64 0, .int .i64 0], .agg #[.int .i64 1, .int .i64 0]] w fun e w' => e = .returned (.tuple #[.agg #[.int .i64 0, .int .i64 0], .int .i64 20]) ∧ Below w.heap.size w w' := by
  have h := sMeet_any 0 0 1 0 w
  rw [show sMeetR 0 0 1 0 = (0, 0, 20) by decide +kernel] at h
  exact h
theorem xsMid_m1_0 (w : World) : Calls Tryd.prog 21 #[.agg #[.int .i64 (-1), .int .i64 0]] w fun e w' => e = .returned (.tuple #[.int .i64 (-1), .int .i64 0]) ∧ Below w.heap.size w w' := by
  have h := sMid_any (-1) 0 w
  rw [show sMidR (-1) 0 = ((-1), 0) by decide +kernel] at h
  exact h
theorem xsWidth_m4503599627370496_4503599627370496 (w : World) : Calls Tryd.prog 22 #[.agg #[.int .i64 (-4503599627370496), .int .i64 4503599627370496]] w fun e w' => e = .returned (.tuple #[.int .i64 9007199254740992, .int .i64 0]) ∧ Below w.heap.size w w' := by
  have h := sWidth_any (-4503599627370496) 4503599627370496 w
  rw [show sWidthR (-4503599627370496) 4503599627370496 = (9007199254740992, 0) by decide +kernel] at h
  exact h
theorem xsSign_m2_m1 (w : World) : Calls Tryd.prog 23 #[.agg #[.int .i64 (-2), .int .i64 (-1)]] w fun e w' => e = .returned (.tuple #[.int .i64 (-1), .int .i64 0]) ∧ Below w.heap.size w w' := by
  have h := sSign_any (-2) (-1) w
  rw [show sSignR (-2) (-1) = ((-1), 0) by decide +kernel] at h
  exact h
theorem xsSign_4294967296_4294967296 (w : World) : Calls Tryd.prog 23 #[.agg #[.int .i64 4294967296, .int .i64 4294967296]] w fun e w' => e = .returned (.tuple #[.int .i64 1, .int .i64 0]) ∧ Below w.heap.size w w' := by
  have h := sSign_any 4294967296 4294967296 w
  rw [show sSignR 4294967296 4294967296 = (1, 0) by decide +kernel] at h
  exact h
theorem xsDec_1_13 (w : World) (ht : Tens w) : Calls Tryd.prog 24 #[.int .i64 1, .int .i64 13] w fun e w' => e = .returned (.tuple #[.agg #[.int .i64 0, .int .i64 0], .int .i64 2]) ∧ Below w.heap.size w w' := by
  have h := sDec_any 1 13 w ht (by omega) (by omega)
  rw [show sDecR 1 13 = (0, 0, 2) by decide +kernel] at h
  exact h
theorem xsDec_2097152_0 (w : World) (ht : Tens w) : Calls Tryd.prog 24 #[.int .i64 2097152, .int .i64 0] w fun e w' => e = .returned (.tuple #[.agg #[.int .i64 0, .int .i64 0], .int .i64 6]) ∧ Below w.heap.size w w' := by
  have h := sDec_any 2097152 0 w ht (by omega) (by omega)
  rw [show sDecR 2097152 0 = (0, 0, 6) by decide +kernel] at h
  exact h

end Go.Proofs.YtabnpidmhmebfaaDoor
