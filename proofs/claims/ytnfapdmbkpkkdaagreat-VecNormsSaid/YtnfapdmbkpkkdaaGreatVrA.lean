/-
  The reference of layer 6: sums, products.
-/
import Derived.Test.YtnfapdmbkpkkdaaGreatVcG
import Derived.Test.YtnfapdmbkpkkdaaGreatVcF
import Derived.Test.YtnfapdmbkpkkdaaGreatPwM
namespace Go.Proofs.YtnfapdmbkpkkdaaGreat
open Go.RowKit

set_option maxHeartbeats 1000000 in
theorem rFirst2_any (q : Nat) (e f : Int) (w : World) (c0 : w.cell? ⟨q, 0, none⟩ = some (.int .i64 e)) (c1 : w.cell? ⟨q, 1, none⟩ = some (.int .i64 f)) :
    Calls Tryz.prog 71 #[.slice (some ⟨q, 0, none⟩) 2 2] w fun r w' => r = .returned (.int .i64 (fo e f)) ∧ w = w' := by
  unfold fo
  by_cases h0 : e = 0
  · subst h0
    rw [if_pos rfl]
    by_cases h1 : f = 0
    · subst h1
      go_enter Tryz.func71, Tryz.ntmps71
      go_wp2
      refine wp_loop_rounds 3 ?_
      rw [rounds_succ]
      go_wp2
      rw [rounds_succ]
      go_wp2
      rw [rounds_succ]
      go_wp2
      go_ret
      exact ⟨rfl, rfl⟩
    · have y1 : (f == 0) = false := beq_eq_false_iff_ne.2 h1
      go_enter Tryz.func71, Tryz.ntmps71
      go_wp2
      refine wp_loop_rounds 3 ?_
      rw [rounds_succ]
      go_wp2
      rw [rounds_succ]
      go_wp2
      go_ret
      exact ⟨rfl, rfl⟩
  · have y0 : (e == 0) = false := beq_eq_false_iff_ne.2 h0
    rw [if_neg h0]
    go_enter Tryz.func71, Tryz.ntmps71
    go_wp2
    refine wp_loop_rounds 3 ?_
    rw [rounds_succ]
    go_wp2
    go_ret
    exact ⟨rfl, rfl⟩
set_option maxHeartbeats 1000000 in
theorem rFirst3_any (q : Nat) (e f g : Int) (w : World) (c0 : w.cell? ⟨q, 0, none⟩ = some (.int .i64 e)) (c1 : w.cell? ⟨q, 1, none⟩ = some (.int .i64 f)) (c2 : w.cell? ⟨q, 2, none⟩ = some (.int .i64 g)) :
    Calls Tryz.prog 71 #[.slice (some ⟨q, 0, none⟩) 3 3] w fun r w' => r = .returned (.int .i64 (fo e (fo f g))) ∧ w = w' := by
  unfold fo
  by_cases h0 : e = 0
  · subst h0
    rw [if_pos rfl]
    by_cases h1 : f = 0
    · subst h1
      rw [if_pos rfl]
      by_cases h2 : g = 0
      · subst h2
        go_enter Tryz.func71, Tryz.ntmps71
        go_wp2
        refine wp_loop_rounds 4 ?_
        rw [rounds_succ]
        go_wp2
        rw [rounds_succ]
        go_wp2
        rw [rounds_succ]
        go_wp2
        rw [rounds_succ]
        go_wp2
        go_ret
        exact ⟨rfl, rfl⟩
      · have y2 : (g == 0) = false := beq_eq_false_iff_ne.2 h2
        go_enter Tryz.func71, Tryz.ntmps71
        go_wp2
        refine wp_loop_rounds 4 ?_
        rw [rounds_succ]
        go_wp2
        rw [rounds_succ]
        go_wp2
        rw [rounds_succ]
        go_wp2
        go_ret
        exact ⟨rfl, rfl⟩
    · have y1 : (f == 0) = false := beq_eq_false_iff_ne.2 h1
      rw [if_neg h1]
      go_enter Tryz.func71, Tryz.ntmps71
      go_wp2
      refine wp_loop_rounds 4 ?_
      rw [rounds_succ]
      go_wp2
      rw [rounds_succ]
      go_wp2
      go_ret
      exact ⟨rfl, rfl⟩
  · have y0 : (e == 0) = false := beq_eq_false_iff_ne.2 h0
    rw [if_neg h0]
    go_enter Tryz.func71, Tryz.ntmps71
    go_wp2
    refine wp_loop_rounds 4 ?_
    rw [rounds_succ]
    go_wp2
    go_ret
    exact ⟨rfl, rfl⟩
set_option maxHeartbeats 1000000 in
theorem rRight6_ok (a0 a1 a2 a3 a4 a5 : Int) (e : ckV a0 a1 a2 a3 a4 a5 = 0) (w : World) :
    Calls Tryz.prog 39 #[.agg #[.int .i64 a0, .int .i64 a1, .int .i64 a2, .int .i64 a3, .int .i64 a4, .int .i64 a5]] w fun r w' => r = .returned (.bool true) ∧ Below w.heap.size w w' := by
  obtain ⟨k0, k1, k2⟩ : ckS a0 a1 = 0 ∧ ckS a2 a3 = 0 ∧ ckS a4 a5 = 0 := by
    unfold ckV at e; split at e; assumption; cases e
  have h0 := fun w => rRight_ok a0 a1 k0 w
  have h1 := fun w => rRight_ok a2 a3 k1 w
  have h2 := fun w => rRight_ok a4 a5 k2 w
  clear e k0 k1 k2
  have bA := Bn.new w #[.int .i64 a0, .int .i64 a1, .int .i64 a2, .int .i64 a3, .int .i64 a4, .int .i64 a5] 25
  have hB : Below w.heap.size w (w.alloc (.cells #[.int .i64 a0, .int .i64 a1, .int .i64 a2, .int .i64 a3, .int .i64 a4, .int .i64 a5] 25)) := by (repeat (first | with_reducible exact Below.refl _ _ | with_reducible assumption | refine Below.alloc ?_ (by (try simp); try omega) _ | refine Below.setCell ?_ (by (try simp); try omega) _ | refine below_drewN ?_ _ | refine Below.drew ?_ | (with_reducible refine Below.trans ?_ (Below.mono (by assumption) (by (try simp); try omega)))))
  generalize hv : (w.alloc (.cells #[.int .i64 a0, .int .i64 a1, .int .i64 a2, .int .i64 a3, .int .i64 a4, .int .i64 a5] 25)) = v0 at *
  generalize hn : w.heap.size = n at *
  have c0 : v0.cell? ⟨n, 0, none⟩ = some (.int .i64 a0) := bA.cell 0 _ rfl
  have c1 : v0.cell? ⟨n, 1, none⟩ = some (.int .i64 a1) := bA.cell 1 _ rfl
  have c2 : v0.cell? ⟨n, 2, none⟩ = some (.int .i64 a2) := bA.cell 2 _ rfl
  have c3 : v0.cell? ⟨n, 3, none⟩ = some (.int .i64 a3) := bA.cell 3 _ rfl
  have c4 : v0.cell? ⟨n, 4, none⟩ = some (.int .i64 a4) := bA.cell 4 _ rfl
  have c5 : v0.cell? ⟨n, 5, none⟩ = some (.int .i64 a5) := bA.cell 5 _ rfl
  have kA := bA.lt
  subst hv
  subst hn
  go_enter Tryz.func39, Tryz.ntmps39
  go_wp2_with fail
  go_at_call 50
  refine (h0 _).mono ?_
  rintro r u0 ⟨rfl, hb⟩
  replace bA := bA.keep hb
  replace hB := hB.trans (hb.mono hB.size)
  clear hb c0 c1 c2 c3 c4 c5 kA
  have c0 : u0.cell? ⟨w.heap.size, 0, none⟩ = some (.int .i64 a0) := bA.cell 0 _ rfl
  have c1 : u0.cell? ⟨w.heap.size, 1, none⟩ = some (.int .i64 a1) := bA.cell 1 _ rfl
  have c2 : u0.cell? ⟨w.heap.size, 2, none⟩ = some (.int .i64 a2) := bA.cell 2 _ rfl
  have c3 : u0.cell? ⟨w.heap.size, 3, none⟩ = some (.int .i64 a3) := bA.cell 3 _ rfl
  have c4 : u0.cell? ⟨w.heap.size, 4, none⟩ = some (.int .i64 a4) := bA.cell 4 _ rfl
  have c5 : u0.cell? ⟨w.heap.size, 5, none⟩ = some (.int .i64 a5) := bA.cell 5 _ rfl
  have kA := bA.lt
  go_wp2_with fail
  go_at_call 50
  refine (h1 _).mono ?_
  rintro r u1 ⟨rfl, hb⟩
  replace bA := bA.keep hb
  replace hB := hB.trans (hb.mono hB.size)
  clear hb c0 c1 c2 c3 c4 c5 kA
  have c0 : u1.cell? ⟨w.heap.size, 0, none⟩ = some (.int .i64 a0) := bA.cell 0 _ rfl
  have c1 : u1.cell? ⟨w.heap.size, 1, none⟩ = some (.int .i64 a1) := bA.cell 1 _ rfl
  have c2 : u1.cell? ⟨w.heap.size, 2, none⟩ = some (.int .i64 a2) := bA.cell 2 _ rfl
  have c3 : u1.cell? ⟨w.heap.size, 3, none⟩ = some (.int .i64 a3) := bA.cell 3 _ rfl
  have c4 : u1.cell? ⟨w.heap.size, 4, none⟩ = some (.int .i64 a4) := bA.cell 4 _ rfl
  have c5 : u1.cell? ⟨w.heap.size, 5, none⟩ = some (.int .i64 a5) := bA.cell 5 _ rfl
  have kA := bA.lt
  go_wp2_with fail
  go_at_call 50
  refine (h2 _).mono ?_
  rintro r u2 ⟨rfl, hb⟩
  replace bA := bA.keep hb
  replace hB := hB.trans (hb.mono hB.size)
  clear hb c0 c1 c2 c3 c4 c5 kA
  go_wp2
  go_ret
  exact ⟨rfl, hB⟩
set_option maxHeartbeats 1000000 in
theorem rRight6_no0 (a0 a1 a2 a3 a4 a5 : Int) (k0 : ckS a0 a1 = 20) (w : World) :
    Calls Tryz.prog 39 #[.agg #[.int .i64 a0, .int .i64 a1, .int .i64 a2, .int .i64 a3, .int .i64 a4, .int .i64 a5]] w fun r w' => r = .returned (.bool false) ∧ Below w.heap.size w w' := by
  have h0 := fun w => rRight_no a0 a1 k0 w
  clear k0
  have bA := Bn.new w #[.int .i64 a0, .int .i64 a1, .int .i64 a2, .int .i64 a3, .int .i64 a4, .int .i64 a5] 25
  have hB : Below w.heap.size w (w.alloc (.cells #[.int .i64 a0, .int .i64 a1, .int .i64 a2, .int .i64 a3, .int .i64 a4, .int .i64 a5] 25)) := by (repeat (first | with_reducible exact Below.refl _ _ | with_reducible assumption | refine Below.alloc ?_ (by (try simp); try omega) _ | refine Below.setCell ?_ (by (try simp); try omega) _ | refine below_drewN ?_ _ | refine Below.drew ?_ | (with_reducible refine Below.trans ?_ (Below.mono (by assumption) (by (try simp); try omega)))))
  generalize hv : (w.alloc (.cells #[.int .i64 a0, .int .i64 a1, .int .i64 a2, .int .i64 a3, .int .i64 a4, .int .i64 a5] 25)) = v0 at *
  generalize hn : w.heap.size = n at *
  have c0 : v0.cell? ⟨n, 0, none⟩ = some (.int .i64 a0) := bA.cell 0 _ rfl
  have c1 : v0.cell? ⟨n, 1, none⟩ = some (.int .i64 a1) := bA.cell 1 _ rfl
  have c2 : v0.cell? ⟨n, 2, none⟩ = some (.int .i64 a2) := bA.cell 2 _ rfl
  have c3 : v0.cell? ⟨n, 3, none⟩ = some (.int .i64 a3) := bA.cell 3 _ rfl
  have c4 : v0.cell? ⟨n, 4, none⟩ = some (.int .i64 a4) := bA.cell 4 _ rfl
  have c5 : v0.cell? ⟨n, 5, none⟩ = some (.int .i64 a5) := bA.cell 5 _ rfl
  have kA := bA.lt
  subst hv
  subst hn
  go_enter Tryz.func39, Tryz.ntmps39
  go_wp2_with fail
  go_at_call 50
  refine (h0 _).mono ?_
  rintro r u0 ⟨rfl, hb⟩
  replace bA := bA.keep hb
  replace hB := hB.trans (hb.mono hB.size)
  clear hb c0 c1 c2 c3 c4 c5 kA
  go_wp2
  go_ret
  exact ⟨rfl, hB⟩
set_option maxHeartbeats 1000000 in
theorem rRight6_no1 (a0 a1 a2 a3 a4 a5 : Int) (k0 : ckS a0 a1 = 0) (k1 : ckS a2 a3 = 20) (w : World) :
    Calls Tryz.prog 39 #[.agg #[.int .i64 a0, .int .i64 a1, .int .i64 a2, .int .i64 a3, .int .i64 a4, .int .i64 a5]] w fun r w' => r = .returned (.bool false) ∧ Below w.heap.size w w' := by
  have h0 := fun w => rRight_ok a0 a1 k0 w
  have h1 := fun w => rRight_no a2 a3 k1 w
  clear k0 k1
  have bA := Bn.new w #[.int .i64 a0, .int .i64 a1, .int .i64 a2, .int .i64 a3, .int .i64 a4, .int .i64 a5] 25
  have hB : Below w.heap.size w (w.alloc (.cells #[.int .i64 a0, .int .i64 a1, .int .i64 a2, .int .i64 a3, .int .i64 a4, .int .i64 a5] 25)) := by (repeat (first | with_reducible exact Below.refl _ _ | with_reducible assumption | refine Below.alloc ?_ (by (try simp); try omega) _ | refine Below.setCell ?_ (by (try simp); try omega) _ | refine below_drewN ?_ _ | refine Below.drew ?_ | (with_reducible refine Below.trans ?_ (Below.mono (by assumption) (by (try simp); try omega)))))
  generalize hv : (w.alloc (.cells #[.int .i64 a0, .int .i64 a1, .int .i64 a2, .int .i64 a3, .int .i64 a4, .int .i64 a5] 25)) = v0 at *
  generalize hn : w.heap.size = n at *
  have c0 : v0.cell? ⟨n, 0, none⟩ = some (.int .i64 a0) := bA.cell 0 _ rfl
  have c1 : v0.cell? ⟨n, 1, none⟩ = some (.int .i64 a1) := bA.cell 1 _ rfl
  have c2 : v0.cell? ⟨n, 2, none⟩ = some (.int .i64 a2) := bA.cell 2 _ rfl
  have c3 : v0.cell? ⟨n, 3, none⟩ = some (.int .i64 a3) := bA.cell 3 _ rfl
  have c4 : v0.cell? ⟨n, 4, none⟩ = some (.int .i64 a4) := bA.cell 4 _ rfl
  have c5 : v0.cell? ⟨n, 5, none⟩ = some (.int .i64 a5) := bA.cell 5 _ rfl
  have kA := bA.lt
  subst hv
  subst hn
  go_enter Tryz.func39, Tryz.ntmps39
  go_wp2_with fail
  go_at_call 50
  refine (h0 _).mono ?_
  rintro r u0 ⟨rfl, hb⟩
  replace bA := bA.keep hb
  replace hB := hB.trans (hb.mono hB.size)
  clear hb c0 c1 c2 c3 c4 c5 kA
  have c0 : u0.cell? ⟨w.heap.size, 0, none⟩ = some (.int .i64 a0) := bA.cell 0 _ rfl
  have c1 : u0.cell? ⟨w.heap.size, 1, none⟩ = some (.int .i64 a1) := bA.cell 1 _ rfl
  have c2 : u0.cell? ⟨w.heap.size, 2, none⟩ = some (.int .i64 a2) := bA.cell 2 _ rfl
  have c3 : u0.cell? ⟨w.heap.size, 3, none⟩ = some (.int .i64 a3) := bA.cell 3 _ rfl
  have c4 : u0.cell? ⟨w.heap.size, 4, none⟩ = some (.int .i64 a4) := bA.cell 4 _ rfl
  have c5 : u0.cell? ⟨w.heap.size, 5, none⟩ = some (.int .i64 a5) := bA.cell 5 _ rfl
  have kA := bA.lt
  go_wp2_with fail
  go_at_call 50
  refine (h1 _).mono ?_
  rintro r u1 ⟨rfl, hb⟩
  replace bA := bA.keep hb
  replace hB := hB.trans (hb.mono hB.size)
  clear hb c0 c1 c2 c3 c4 c5 kA
  go_wp2
  go_ret
  exact ⟨rfl, hB⟩
set_option maxHeartbeats 1000000 in
theorem rRight6_no2 (a0 a1 a2 a3 a4 a5 : Int) (k0 : ckS a0 a1 = 0) (k1 : ckS a2 a3 = 0) (k2 : ckS a4 a5 = 20) (w : World) :
    Calls Tryz.prog 39 #[.agg #[.int .i64 a0, .int .i64 a1, .int .i64 a2, .int .i64 a3, .int .i64 a4, .int .i64 a5]] w fun r w' => r = .returned (.bool false) ∧ Below w.heap.size w w' := by
  have h0 := fun w => rRight_ok a0 a1 k0 w
  have h1 := fun w => rRight_ok a2 a3 k1 w
  have h2 := fun w => rRight_no a4 a5 k2 w
  clear k0 k1 k2
  have bA := Bn.new w #[.int .i64 a0, .int .i64 a1, .int .i64 a2, .int .i64 a3, .int .i64 a4, .int .i64 a5] 25
  have hB : Below w.heap.size w (w.alloc (.cells #[.int .i64 a0, .int .i64 a1, .int .i64 a2, .int .i64 a3, .int .i64 a4, .int .i64 a5] 25)) := by (repeat (first | with_reducible exact Below.refl _ _ | with_reducible assumption | refine Below.alloc ?_ (by (try simp); try omega) _ | refine Below.setCell ?_ (by (try simp); try omega) _ | refine below_drewN ?_ _ | refine Below.drew ?_ | (with_reducible refine Below.trans ?_ (Below.mono (by assumption) (by (try simp); try omega)))))
  generalize hv : (w.alloc (.cells #[.int .i64 a0, .int .i64 a1, .int .i64 a2, .int .i64 a3, .int .i64 a4, .int .i64 a5] 25)) = v0 at *
  generalize hn : w.heap.size = n at *
  have c0 : v0.cell? ⟨n, 0, none⟩ = some (.int .i64 a0) := bA.cell 0 _ rfl
  have c1 : v0.cell? ⟨n, 1, none⟩ = some (.int .i64 a1) := bA.cell 1 _ rfl
  have c2 : v0.cell? ⟨n, 2, none⟩ = some (.int .i64 a2) := bA.cell 2 _ rfl
  have c3 : v0.cell? ⟨n, 3, none⟩ = some (.int .i64 a3) := bA.cell 3 _ rfl
  have c4 : v0.cell? ⟨n, 4, none⟩ = some (.int .i64 a4) := bA.cell 4 _ rfl
  have c5 : v0.cell? ⟨n, 5, none⟩ = some (.int .i64 a5) := bA.cell 5 _ rfl
  have kA := bA.lt
  subst hv
  subst hn
  go_enter Tryz.func39, Tryz.ntmps39
  go_wp2_with fail
  go_at_call 50
  refine (h0 _).mono ?_
  rintro r u0 ⟨rfl, hb⟩
  replace bA := bA.keep hb
  replace hB := hB.trans (hb.mono hB.size)
  clear hb c0 c1 c2 c3 c4 c5 kA
  have c0 : u0.cell? ⟨w.heap.size, 0, none⟩ = some (.int .i64 a0) := bA.cell 0 _ rfl
  have c1 : u0.cell? ⟨w.heap.size, 1, none⟩ = some (.int .i64 a1) := bA.cell 1 _ rfl
  have c2 : u0.cell? ⟨w.heap.size, 2, none⟩ = some (.int .i64 a2) := bA.cell 2 _ rfl
  have c3 : u0.cell? ⟨w.heap.size, 3, none⟩ = some (.int .i64 a3) := bA.cell 3 _ rfl
  have c4 : u0.cell? ⟨w.heap.size, 4, none⟩ = some (.int .i64 a4) := bA.cell 4 _ rfl
  have c5 : u0.cell? ⟨w.heap.size, 5, none⟩ = some (.int .i64 a5) := bA.cell 5 _ rfl
  have kA := bA.lt
  go_wp2_with fail
  go_at_call 50
  refine (h1 _).mono ?_
  rintro r u1 ⟨rfl, hb⟩
  replace bA := bA.keep hb
  replace hB := hB.trans (hb.mono hB.size)
  clear hb c0 c1 c2 c3 c4 c5 kA
  have c0 : u1.cell? ⟨w.heap.size, 0, none⟩ = some (.int .i64 a0) := bA.cell 0 _ rfl
  have c1 : u1.cell? ⟨w.heap.size, 1, none⟩ = some (.int .i64 a1) := bA.cell 1 _ rfl
  have c2 : u1.cell? ⟨w.heap.size, 2, none⟩ = some (.int .i64 a2) := bA.cell 2 _ rfl
  have c3 : u1.cell? ⟨w.heap.size, 3, none⟩ = some (.int .i64 a3) := bA.cell 3 _ rfl
  have c4 : u1.cell? ⟨w.heap.size, 4, none⟩ = some (.int .i64 a4) := bA.cell 4 _ rfl
  have c5 : u1.cell? ⟨w.heap.size, 5, none⟩ = some (.int .i64 a5) := bA.cell 5 _ rfl
  have kA := bA.lt
  go_wp2_with fail
  go_at_call 50
  refine (h2 _).mono ?_
  rintro r u2 ⟨rfl, hb⟩
  replace bA := bA.keep hb
  replace hB := hB.trans (hb.mono hB.size)
  clear hb c0 c1 c2 c3 c4 c5 kA
  go_wp2
  go_ret
  exact ⟨rfl, hB⟩
theorem ckS_two (l h : Int) : ckS l h = 0 ∨ ckS l h = 20 := by unfold ckS; split <;> omega
theorem rRight6_no (a0 a1 a2 a3 a4 a5 : Int) (e : ckV a0 a1 a2 a3 a4 a5 ≠ 0) (w : World) :
    Calls Tryz.prog 39 #[.agg #[.int .i64 a0, .int .i64 a1, .int .i64 a2, .int .i64 a3, .int .i64 a4, .int .i64 a5]] w fun r w' => r = .returned (.bool false) ∧ Below w.heap.size w w' := by
  rcases ckS_two a0 a1 with k0 | k0
  · rcases ckS_two a2 a3 with k1 | k1
    · rcases ckS_two a4 a5 with k2 | k2
      · exact absurd (by unfold ckV; rw [if_pos ⟨k0, k1, k2⟩]) e
      · exact rRight6_no2 a0 a1 a2 a3 a4 a5 k0 k1 k2 w
    · exact rRight6_no1 a0 a1 a2 a3 a4 a5 k0 k1 w
  · exact rRight6_no0 a0 a1 a2 a3 a4 a5 k0 w
end Go.Proofs.YtnfapdmbkpkkdaaGreat
