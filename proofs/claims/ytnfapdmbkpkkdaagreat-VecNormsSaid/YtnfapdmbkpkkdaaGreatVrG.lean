/-
  The reference of layer 6: Norm, Unit.
-/
import Derived.Test.YtnfapdmbkpkkdaaGreatVrB
import Derived.Test.YtnfapdmbkpkkdaaGreatPwN
import Derived.Test.YtnfapdmbkpkkdaaGreatPwR
import Derived.Deep.RegionHeld3
namespace Go.Proofs.YtnfapdmbkpkkdaaGreat
open Go.RowKit

theorem sTold_er (e l h : Int) : (sTold e l h).2.2 = e := by
  unfold sTold; split
  · rename_i c; exact c.symm
  · rfl
theorem btw_zero {x y : Int × Int} (h : (btw x y).2.2 ≠ 0) : (btw x y).1 = 0 ∧ (btw x y).2.1 = 0 := by
  unfold btw at h ⊢
  split
  · rename_i c
    rw [if_pos c] at h
    split
    · rename_i d; rw [if_pos d] at h; exact absurd rfl h
    · exact ⟨rfl, rfl⟩
  · exact ⟨rfl, rfl⟩
theorem sqrt_zero {a b : Int} (h : (sSqrtR a b).2.2 ≠ 0) : (sSqrtR a b).1 = 0 ∧ (sSqrtR a b).2.1 = 0 := by
  unfold sSqrtR at h ⊢
  split
  · rename_i c; rw [if_pos c] at h; exact btw_zero h
  · exact ⟨rfl, rfl⟩
theorem refSqrt_b (a : Int) (up : Bool) (w : World) (a0 : 0 ≤ a) (a1 : a ≤ 4503599627370496) :
    Calls Tryz.prog 82 #[.int .i64 a, .bool up] w fun r w' => r = .returned (.int .i64 (rootR up (a * 4294967296))) ∧ Below w.heap.size w w' :=
  (refSqrt_any a up w a0 a1).mono fun _ _ h => ⟨h.1, h.2 ▸ Below.refl _ _⟩
set_option maxRecDepth 100000 in
set_option maxHeartbeats 4000000 in
theorem rSqrt_no (l h : Int) (k : ckS l h = 20) (w : World) :
    Calls Tryz.prog 59 #[.agg #[.int .i64 l, .int .i64 h]] w fun r w' => r = .returned (.tuple #[.agg #[.int .i64 0, .int .i64 0], .int .i64 20]) ∧ Below w.heap.size w w' := by
  have g1 := fun w => rRight_no l h k w
  clear k
  have bX0 := Bn.new w #[.int .i64 l, .int .i64 h] 23
  replace bX0 := bX0.alloc (.cells #[.int .i64 0, .int .i64 0] 23)
  have bZ := Bn.new (w.alloc (.cells #[.int .i64 l, .int .i64 h] 23)) #[.int .i64 0, .int .i64 0] 23
  rw [show (w.alloc (.cells #[.int .i64 l, .int .i64 h] 23)).heap.size = w.heap.size + 1 by simp] at bZ
  have hB : Below w.heap.size w ((w.alloc (.cells #[.int .i64 l, .int .i64 h] 23)).alloc (.cells #[.int .i64 0, .int .i64 0] 23)) := by (repeat (first | with_reducible exact Below.refl _ _ | with_reducible assumption | refine Below.alloc ?_ (by (try simp); try omega) _ | refine Below.setCell ?_ (by (try simp); try omega) _ | refine below_drewN ?_ _ | refine Below.drew ?_ | (with_reducible refine Below.trans ?_ (Below.mono (by assumption) (by (try simp); try omega)))))
  generalize hv : ((w.alloc (.cells #[.int .i64 l, .int .i64 h] 23)).alloc (.cells #[.int .i64 0, .int .i64 0] 23)) = v0 at *
  generalize hn : w.heap.size = n at *
  have cX00 : v0.cell? ⟨n, 0, none⟩ = some (.int .i64 l) := bX0.cell 0 _ rfl
  have cX01 : v0.cell? ⟨n, 1, none⟩ = some (.int .i64 h) := bX0.cell 1 _ rfl
  have kX0 := bX0.lt
  subst hv
  subst hn
  go_enter Tryz.func59, Tryz.ntmps59
  go_wp2_with fail
  go_at_call 50
  refine (g1 _).mono ?_
  rintro r u1 ⟨rfl, hb⟩
  replace bX0 := bX0.keep hb
  replace bZ := bZ.keep hb
  replace hB := hB.trans (hb.mono hB.size)
  clear hb cX00 cX01 kX0
  generalize hn : w.heap.size = n at *
  have cZ0 : u1.cell? ⟨n + 1, 0, none⟩ = some (.int .i64 0) := bZ.cell 0 _ rfl
  have cZ1 : u1.cell? ⟨n + 1, 1, none⟩ = some (.int .i64 0) := bZ.cell 1 _ rfl
  have kZ := bZ.lt
  have zZ0 : u1.frozen? ⟨n + 1, 0, none⟩ = false := bZ.f 0
  have zZ1 : u1.frozen? ⟨n + 1, 1, none⟩ = false := bZ.f 1
  go_wp2
  refine bodyPost_ret (v := .tuple #[.agg #[.int .i64 0, .int .i64 0], .int .i64 20]) (by simp [results, Tryz.results59, go_sem, cZ0, zZ0, cZ1, zZ1, kZ]) rfl ⟨rfl, ?_⟩
  subst hn
  exact below2 hB (show w.heap.size ≤ w.heap.size + 1 by omega) _ _
set_option maxRecDepth 100000 in
set_option maxHeartbeats 4000000 in
theorem rSqrt_neg (l h : Int) (k : ckS l h = 0) (z : l < 0) (w : World) :
    Calls Tryz.prog 59 #[.agg #[.int .i64 l, .int .i64 h]] w fun r w' => r = .returned (.tuple #[.agg #[.int .i64 0, .int .i64 0], .int .i64 2]) ∧ Below w.heap.size w w' := by
  have g1 := fun w => rRight_ok l h k w
  have y : decide (l < 0) = true := decide_eq_true z
  clear k
  have bX0 := Bn.new w #[.int .i64 l, .int .i64 h] 23
  replace bX0 := bX0.alloc (.cells #[.int .i64 0, .int .i64 0] 23)
  have bZ := Bn.new (w.alloc (.cells #[.int .i64 l, .int .i64 h] 23)) #[.int .i64 0, .int .i64 0] 23
  rw [show (w.alloc (.cells #[.int .i64 l, .int .i64 h] 23)).heap.size = w.heap.size + 1 by simp] at bZ
  have hB : Below w.heap.size w ((w.alloc (.cells #[.int .i64 l, .int .i64 h] 23)).alloc (.cells #[.int .i64 0, .int .i64 0] 23)) := by (repeat (first | with_reducible exact Below.refl _ _ | with_reducible assumption | refine Below.alloc ?_ (by (try simp); try omega) _ | refine Below.setCell ?_ (by (try simp); try omega) _ | refine below_drewN ?_ _ | refine Below.drew ?_ | (with_reducible refine Below.trans ?_ (Below.mono (by assumption) (by (try simp); try omega)))))
  generalize hv : ((w.alloc (.cells #[.int .i64 l, .int .i64 h] 23)).alloc (.cells #[.int .i64 0, .int .i64 0] 23)) = v0 at *
  generalize hn : w.heap.size = n at *
  have cX00 : v0.cell? ⟨n, 0, none⟩ = some (.int .i64 l) := bX0.cell 0 _ rfl
  have cX01 : v0.cell? ⟨n, 1, none⟩ = some (.int .i64 h) := bX0.cell 1 _ rfl
  have kX0 := bX0.lt
  subst hv
  subst hn
  go_enter Tryz.func59, Tryz.ntmps59
  go_wp2_with fail
  go_at_call 50
  refine (g1 _).mono ?_
  rintro r u1 ⟨rfl, hb⟩
  replace bX0 := bX0.keep hb
  replace bZ := bZ.keep hb
  replace hB := hB.trans (hb.mono hB.size)
  clear hb cX00 cX01 kX0
  generalize hn : w.heap.size = n at *
  have cX00 : u1.cell? ⟨n, 0, none⟩ = some (.int .i64 l) := bX0.cell 0 _ rfl
  have cX01 : u1.cell? ⟨n, 1, none⟩ = some (.int .i64 h) := bX0.cell 1 _ rfl
  have kX0 := bX0.lt
  have cZ0 : u1.cell? ⟨n + 1, 0, none⟩ = some (.int .i64 0) := bZ.cell 0 _ rfl
  have cZ1 : u1.cell? ⟨n + 1, 1, none⟩ = some (.int .i64 0) := bZ.cell 1 _ rfl
  have kZ := bZ.lt
  have zZ0 : u1.frozen? ⟨n + 1, 0, none⟩ = false := bZ.f 0
  have zZ1 : u1.frozen? ⟨n + 1, 1, none⟩ = false := bZ.f 1
  go_wp2
  refine bodyPost_ret (v := .tuple #[.agg #[.int .i64 0, .int .i64 0], .int .i64 2]) (by simp [results, Tryz.results59, go_sem, cZ0, zZ0, cZ1, zZ1, kZ]) rfl ⟨rfl, ?_⟩
  subst hn
  exact below2 hB (show w.heap.size ≤ w.heap.size + 1 by omega) _ _
set_option maxRecDepth 100000 in
set_option maxHeartbeats 4000000 in
theorem rSqrt_ok (l h : Int) (k : ckS l h = 0) (z : 0 ≤ l) (w : World) :
    Calls Tryz.prog 59 #[.agg #[.int .i64 l, .int .i64 h]] w fun r w' => r = .returned (.tuple #[.agg #[.int .i64 (rootR false (l * 4294967296)), .int .i64 (rootR true (h * 4294967296))], .int .i64 0]) ∧ Below w.heap.size w w' := by
  have g1 := fun w => rRight_ok l h k w
  have y : decide (l < 0) = false := decide_eq_false (by omega)
  have vk := valS k
  have h1 := fun w => refSqrt_b l false w z (by omega)
  have h2 := fun w => refSqrt_b h true w (by omega) (by omega)
  generalize rootR false (l * 4294967296) = u at *
  generalize rootR true (h * 4294967296) = v at *
  clear k vk
  have bX0 := Bn.new w #[.int .i64 l, .int .i64 h] 23
  replace bX0 := bX0.alloc (.cells #[.int .i64 0, .int .i64 0] 23)
  have bZ := Bn.new (w.alloc (.cells #[.int .i64 l, .int .i64 h] 23)) #[.int .i64 0, .int .i64 0] 23
  rw [show (w.alloc (.cells #[.int .i64 l, .int .i64 h] 23)).heap.size = w.heap.size + 1 by simp] at bZ
  have hB : Below w.heap.size w ((w.alloc (.cells #[.int .i64 l, .int .i64 h] 23)).alloc (.cells #[.int .i64 0, .int .i64 0] 23)) := by (repeat (first | with_reducible exact Below.refl _ _ | with_reducible assumption | refine Below.alloc ?_ (by (try simp); try omega) _ | refine Below.setCell ?_ (by (try simp); try omega) _ | refine below_drewN ?_ _ | refine Below.drew ?_ | (with_reducible refine Below.trans ?_ (Below.mono (by assumption) (by (try simp); try omega)))))
  generalize hv : ((w.alloc (.cells #[.int .i64 l, .int .i64 h] 23)).alloc (.cells #[.int .i64 0, .int .i64 0] 23)) = v0 at *
  generalize hn : w.heap.size = n at *
  have cX00 : v0.cell? ⟨n, 0, none⟩ = some (.int .i64 l) := bX0.cell 0 _ rfl
  have cX01 : v0.cell? ⟨n, 1, none⟩ = some (.int .i64 h) := bX0.cell 1 _ rfl
  have kX0 := bX0.lt
  subst hv
  subst hn
  go_enter Tryz.func59, Tryz.ntmps59
  go_wp2_with fail
  go_at_call 50
  refine (g1 _).mono ?_
  rintro r u1 ⟨rfl, hb⟩
  replace bX0 := bX0.keep hb
  replace bZ := bZ.keep hb
  replace hB := hB.trans (hb.mono hB.size)
  clear hb cX00 cX01 kX0
  generalize hn : w.heap.size = n at *
  have cX00 : u1.cell? ⟨n, 0, none⟩ = some (.int .i64 l) := bX0.cell 0 _ rfl
  have cX01 : u1.cell? ⟨n, 1, none⟩ = some (.int .i64 h) := bX0.cell 1 _ rfl
  have kX0 := bX0.lt
  have cZ0 : u1.cell? ⟨n + 1, 0, none⟩ = some (.int .i64 0) := bZ.cell 0 _ rfl
  have cZ1 : u1.cell? ⟨n + 1, 1, none⟩ = some (.int .i64 0) := bZ.cell 1 _ rfl
  have kZ := bZ.lt
  have zZ0 : u1.frozen? ⟨n + 1, 0, none⟩ = false := bZ.f 0
  have zZ1 : u1.frozen? ⟨n + 1, 1, none⟩ = false := bZ.f 1
  clear kX0
  go_wp2_with fail
  go_region_held3 (fun w' => w'.cell? ⟨n, 0, none⟩ = some (.int .i64 l) ∧ w'.cell? ⟨n, 1, none⟩ = some (.int .i64 h))
    (first | with_reducible exact ⟨cX00, cX01⟩ | with_reducible exact ⟨cellDrewI cX00, cellDrewI cX01⟩ | exact ⟨cellSet2 cX00 (by show n ≠ n + 1; omega), cellSet2 cX01 (by show n ≠ n + 1; omega)⟩)
    (first | (go_at_call 82; (with_reducible refine (h1 _).mono ?_); rintro rr uz ⟨rfl, hb⟩; (with_reducible (first | (replace hb := vUndrew hb) | skip)); replace cX00 := bkeep hb cX00; replace cX01 := bkeep hb cX01; replace bZ := bZ.keep hb; replace cZ0 := bkeep hb cZ0; replace cZ1 := bkeep hb cZ1; replace zZ0 := bfrz hb kZ zZ0; replace zZ1 := bfrz hb kZ zZ1; replace kZ := Nat.lt_of_lt_of_le kZ hb.size; replace hB := hB.trans (hb.mono (by have := hB.size; omega)); clear hb) | (go_at_call 82; (with_reducible refine (h2 _).mono ?_); rintro rr uz ⟨rfl, hb⟩; (with_reducible (first | (replace hb := vUndrew hb) | skip)); replace cX00 := bkeep hb cX00; replace cX01 := bkeep hb cX01; replace bZ := bZ.keep hb; replace cZ0 := bkeep hb cZ0; replace cZ1 := bkeep hb cZ1; replace zZ0 := bfrz hb kZ zZ0; replace zZ1 := bfrz hb kZ zZ1; replace kZ := Nat.lt_of_lt_of_le kZ hb.size; replace hB := hB.trans (hb.mono (by have := hB.size; omega)); clear hb))
  all_goals
    go_wp2
    refine bodyPost_ret (v := .tuple #[.agg #[.int .i64 u, .int .i64 v], .int .i64 0]) (by simp [results, Tryz.results59, go_sem, cZ0, cZ1, zZ0, zZ1, kZ]) rfl ⟨rfl, ?_⟩
    subst hn
    exact below2 hB (show w.heap.size ≤ w.heap.size + 1 by omega) _ _
theorem rSqrt_any (l h : Int) (w : World) :
    Calls Tryz.prog 59 #[.agg #[.int .i64 l, .int .i64 h]] w fun r w' => r = .returned (.tuple #[.agg #[.int .i64 (sSqrtR l h).1, .int .i64 (sSqrtR l h).2.1], .int .i64 (sSqrtR l h).2.2]) ∧ Below w.heap.size w w' := by
  rcases ckS_two l h with k | k
  · have vk := valS k
    by_cases z : 0 ≤ l
    · rw [show sSqrtR l h = (rootR false (l * 4294967296), rootR true (h * 4294967296), 0) from by unfold sSqrtR sqrtR; rw [if_pos k, if_pos ⟨by unfold ckErr; rw [if_neg (by omega)], z⟩, if_pos ⟨by unfold ckErr; rw [if_neg (by omega)], by omega⟩]; rfl]
      exact rSqrt_ok l h k z w
    · rw [show sSqrtR l h = (0, 0, 2) from by unfold sSqrtR sqrtR; rw [if_pos k, if_neg (by omega)]; rfl]
      exact rSqrt_neg l h k (by omega) w
  · rw [show sSqrtR l h = (0, 0, 20) from by unfold sSqrtR; rw [if_neg (by omega)]]
    exact rSqrt_no l h k w
def nS (a0 a1 a2 a3 a4 a5 : Int) : Int × Int × Int := sTold (fo (fo (sSqrR a0 a1).2.2 (fo (sSqrR a2 a3).2.2 (sSqrR a4 a5).2.2)) (vSumR (sSqrR a0 a1).1 (sSqrR a0 a1).2.1 (sSqrR a2 a3).1 (sSqrR a2 a3).2.1 (sSqrR a4 a5).1 (sSqrR a4 a5).2.1).2.2) (vSumR (sSqrR a0 a1).1 (sSqrR a0 a1).2.1 (sSqrR a2 a3).1 (sSqrR a2 a3).2.1 (sSqrR a4 a5).1 (sSqrR a4 a5).2.1).1 (vSumR (sSqrR a0 a1).1 (sSqrR a0 a1).2.1 (sSqrR a2 a3).1 (sSqrR a2 a3).2.1 (sSqrR a4 a5).1 (sSqrR a4 a5).2.1).2.1
set_option maxRecDepth 100000 in
set_option maxHeartbeats 4000000 in
theorem rNorm_ok (a0 a1 a2 a3 a4 a5 : Int) (ka : ckV a0 a1 a2 a3 a4 a5 = 0) (h : (nS a0 a1 a2 a3 a4 a5).2.2 = 0) (w : World) :
    Calls Tryz.prog 24 #[.agg #[.int .i64 a0, .int .i64 a1, .int .i64 a2, .int .i64 a3, .int .i64 a4, .int .i64 a5]] w fun r w' => r = .returned (.tuple #[.agg #[.int .i64 (sSqrtR (nS a0 a1 a2 a3 a4 a5).1 (nS a0 a1 a2 a3 a4 a5).2.1).1, .int .i64 (sSqrtR (nS a0 a1 a2 a3 a4 a5).1 (nS a0 a1 a2 a3 a4 a5).2.1).2.1], .int .i64 (sSqrtR (nS a0 a1 a2 a3 a4 a5).1 (nS a0 a1 a2 a3 a4 a5).2.1).2.2]) ∧ Below w.heap.size w w' := by
  have g1 := fun w => rRight6_ok a0 a1 a2 a3 a4 a5 ka w
  clear ka
  unfold nS at *
  have h0 := fun w => rSqr_any a0 a1 w
  generalize sSqrR a0 a1 = m0 at *
  have h1 := fun w => rSqr_any a2 a3 w
  generalize sSqrR a2 a3 = m1 at *
  have h2 := fun w => rSqr_any a4 a5 w
  generalize sSqrR a4 a5 = m2 at *
  have ht := fun w => rThree_any m0.1 m0.2.1 m1.1 m1.2.1 m2.1 m2.2.1 m0.2.2 m1.2.2 m2.2.2 w
  generalize sTold (fo (fo m0.2.2 (fo m1.2.2 m2.2.2)) (vSumR m0.1 m0.2.1 m1.1 m1.2.1 m2.1 m2.2.1).2.2) (vSumR m0.1 m0.2.1 m1.1 m1.2.1 m2.1 m2.2.1).1 (vSumR m0.1 m0.2.1 m1.1 m1.2.1 m2.1 m2.2.1).2.1 = t at *
  have hq := fun w => rSqrt_any t.1 t.2.1 w
  generalize sSqrtR t.1 t.2.1 = q at *
  rw [h] at ht
  clear h
  have bX0 := Bn.new w #[.int .i64 a0, .int .i64 a1, .int .i64 a2, .int .i64 a3, .int .i64 a4, .int .i64 a5] 25
  replace bX0 := bX0.alloc (.cells #[.int .i64 0, .int .i64 0] 23)
  have bZ := Bn.new (w.alloc (.cells #[.int .i64 a0, .int .i64 a1, .int .i64 a2, .int .i64 a3, .int .i64 a4, .int .i64 a5] 25)) #[.int .i64 0, .int .i64 0] 23
  rw [show (w.alloc (.cells #[.int .i64 a0, .int .i64 a1, .int .i64 a2, .int .i64 a3, .int .i64 a4, .int .i64 a5] 25)).heap.size = w.heap.size + 1 by simp] at bZ
  have hB : Below w.heap.size w ((w.alloc (.cells #[.int .i64 a0, .int .i64 a1, .int .i64 a2, .int .i64 a3, .int .i64 a4, .int .i64 a5] 25)).alloc (.cells #[.int .i64 0, .int .i64 0] 23)) := by (repeat (first | with_reducible exact Below.refl _ _ | with_reducible assumption | refine Below.alloc ?_ (by (try simp); try omega) _ | refine Below.setCell ?_ (by (try simp); try omega) _ | refine below_drewN ?_ _ | refine Below.drew ?_ | (with_reducible refine Below.trans ?_ (Below.mono (by assumption) (by (try simp); try omega)))))
  generalize hv : ((w.alloc (.cells #[.int .i64 a0, .int .i64 a1, .int .i64 a2, .int .i64 a3, .int .i64 a4, .int .i64 a5] 25)).alloc (.cells #[.int .i64 0, .int .i64 0] 23)) = v0 at *
  generalize hn : w.heap.size = n at *
  have cX00 : v0.cell? ⟨n, 0, none⟩ = some (.int .i64 a0) := bX0.cell 0 _ rfl
  have cX01 : v0.cell? ⟨n, 1, none⟩ = some (.int .i64 a1) := bX0.cell 1 _ rfl
  have cX02 : v0.cell? ⟨n, 2, none⟩ = some (.int .i64 a2) := bX0.cell 2 _ rfl
  have cX03 : v0.cell? ⟨n, 3, none⟩ = some (.int .i64 a3) := bX0.cell 3 _ rfl
  have cX04 : v0.cell? ⟨n, 4, none⟩ = some (.int .i64 a4) := bX0.cell 4 _ rfl
  have cX05 : v0.cell? ⟨n, 5, none⟩ = some (.int .i64 a5) := bX0.cell 5 _ rfl
  have kX0 := bX0.lt
  subst hv
  subst hn
  go_enter Tryz.func24, Tryz.ntmps24
  go_wp2_with fail
  go_at_call 39
  refine (g1 _).mono ?_
  rintro r u1 ⟨rfl, hb⟩
  replace bX0 := bX0.keep hb
  replace bZ := bZ.keep hb
  replace hB := hB.trans (hb.mono hB.size)
  clear hb cX00 cX01 cX02 cX03 cX04 cX05 kX0
  generalize hn : w.heap.size = n at *
  have cX00 : u1.cell? ⟨n, 0, none⟩ = some (.int .i64 a0) := bX0.cell 0 _ rfl
  have cX01 : u1.cell? ⟨n, 1, none⟩ = some (.int .i64 a1) := bX0.cell 1 _ rfl
  have cX02 : u1.cell? ⟨n, 2, none⟩ = some (.int .i64 a2) := bX0.cell 2 _ rfl
  have cX03 : u1.cell? ⟨n, 3, none⟩ = some (.int .i64 a3) := bX0.cell 3 _ rfl
  have cX04 : u1.cell? ⟨n, 4, none⟩ = some (.int .i64 a4) := bX0.cell 4 _ rfl
  have cX05 : u1.cell? ⟨n, 5, none⟩ = some (.int .i64 a5) := bX0.cell 5 _ rfl
  have kX0 := bX0.lt
  go_wp2_with fail
  go_at_call 58
  refine (h0 _).mono ?_
  rintro r u2 ⟨rfl, hb⟩
  replace bX0 := bX0.keep hb
  replace bZ := bZ.keep hb
  replace hB := hB.trans (hb.mono (by have := hB.size; omega))
  clear hb cX00 cX01 cX02 cX03 cX04 cX05 kX0
  have lX0 := bX0.lt
  have lZ := bZ.lt
  have hsz : n ≤ u2.heap.size := by have := hB.size; omega
  try clear oZ oB
  have oZ := bZ
  have oB := hB
  have bM0 := Bn.new u2 #[.int .i64 m0.1, .int .i64 m0.2.1] 23
  replace bX0 := bX0.alloc (.cells #[.int .i64 m0.1, .int .i64 m0.2.1] 23)
  replace bZ := bZ.alloc (.cells #[.int .i64 m0.1, .int .i64 m0.2.1] 23)
  replace hB := hB.alloc hsz (.cells #[.int .i64 m0.1, .int .i64 m0.2.1] 23)
  have cX00 : (u2.alloc (.cells #[.int .i64 m0.1, .int .i64 m0.2.1] 23)).cell? ⟨n, 0, none⟩ = some (.int .i64 a0) := bX0.cell 0 _ rfl
  have cX01 : (u2.alloc (.cells #[.int .i64 m0.1, .int .i64 m0.2.1] 23)).cell? ⟨n, 1, none⟩ = some (.int .i64 a1) := bX0.cell 1 _ rfl
  have cX02 : (u2.alloc (.cells #[.int .i64 m0.1, .int .i64 m0.2.1] 23)).cell? ⟨n, 2, none⟩ = some (.int .i64 a2) := bX0.cell 2 _ rfl
  have cX03 : (u2.alloc (.cells #[.int .i64 m0.1, .int .i64 m0.2.1] 23)).cell? ⟨n, 3, none⟩ = some (.int .i64 a3) := bX0.cell 3 _ rfl
  have cX04 : (u2.alloc (.cells #[.int .i64 m0.1, .int .i64 m0.2.1] 23)).cell? ⟨n, 4, none⟩ = some (.int .i64 a4) := bX0.cell 4 _ rfl
  have cX05 : (u2.alloc (.cells #[.int .i64 m0.1, .int .i64 m0.2.1] 23)).cell? ⟨n, 5, none⟩ = some (.int .i64 a5) := bX0.cell 5 _ rfl
  have kX0 := bX0.lt
  go_wp2_with fail
  go_at_call 58
  refine (h1 _).mono ?_
  rintro r u3 ⟨rfl, hb⟩
  replace bX0 := bX0.keep hb
  replace bZ := bZ.keep hb
  replace bM0 := bM0.keep hb
  replace hB := hB.trans (hb.mono (by have := hB.size; omega))
  clear hb cX00 cX01 cX02 cX03 cX04 cX05 kX0
  generalize u2.heap.size = gM0 at *
  clear hsz
  have lX0 := bX0.lt
  have lZ := bZ.lt
  have lM0 := bM0.lt
  have hsz : n ≤ u3.heap.size := by have := hB.size; omega
  try clear oZ oB
  have oZ := bZ
  have oB := hB
  have bM1 := Bn.new u3 #[.int .i64 m1.1, .int .i64 m1.2.1] 23
  replace bX0 := bX0.alloc (.cells #[.int .i64 m1.1, .int .i64 m1.2.1] 23)
  replace bZ := bZ.alloc (.cells #[.int .i64 m1.1, .int .i64 m1.2.1] 23)
  replace bM0 := bM0.alloc (.cells #[.int .i64 m1.1, .int .i64 m1.2.1] 23)
  replace hB := hB.alloc hsz (.cells #[.int .i64 m1.1, .int .i64 m1.2.1] 23)
  have cX00 : (u3.alloc (.cells #[.int .i64 m1.1, .int .i64 m1.2.1] 23)).cell? ⟨n, 0, none⟩ = some (.int .i64 a0) := bX0.cell 0 _ rfl
  have cX01 : (u3.alloc (.cells #[.int .i64 m1.1, .int .i64 m1.2.1] 23)).cell? ⟨n, 1, none⟩ = some (.int .i64 a1) := bX0.cell 1 _ rfl
  have cX02 : (u3.alloc (.cells #[.int .i64 m1.1, .int .i64 m1.2.1] 23)).cell? ⟨n, 2, none⟩ = some (.int .i64 a2) := bX0.cell 2 _ rfl
  have cX03 : (u3.alloc (.cells #[.int .i64 m1.1, .int .i64 m1.2.1] 23)).cell? ⟨n, 3, none⟩ = some (.int .i64 a3) := bX0.cell 3 _ rfl
  have cX04 : (u3.alloc (.cells #[.int .i64 m1.1, .int .i64 m1.2.1] 23)).cell? ⟨n, 4, none⟩ = some (.int .i64 a4) := bX0.cell 4 _ rfl
  have cX05 : (u3.alloc (.cells #[.int .i64 m1.1, .int .i64 m1.2.1] 23)).cell? ⟨n, 5, none⟩ = some (.int .i64 a5) := bX0.cell 5 _ rfl
  have kX0 := bX0.lt
  go_wp2_with fail
  go_at_call 58
  refine (h2 _).mono ?_
  rintro r u4 ⟨rfl, hb⟩
  replace bX0 := bX0.keep hb
  replace bZ := bZ.keep hb
  replace bM0 := bM0.keep hb
  replace bM1 := bM1.keep hb
  replace hB := hB.trans (hb.mono (by have := hB.size; omega))
  clear hb cX00 cX01 cX02 cX03 cX04 cX05 kX0
  generalize u3.heap.size = gM1 at *
  clear hsz
  have lX0 := bX0.lt
  have lZ := bZ.lt
  have lM0 := bM0.lt
  have lM1 := bM1.lt
  have hsz : n ≤ u4.heap.size := by have := hB.size; omega
  try clear oZ oB
  have oZ := bZ
  have oB := hB
  have bM2 := Bn.new u4 #[.int .i64 m2.1, .int .i64 m2.2.1] 23
  replace bX0 := bX0.alloc (.cells #[.int .i64 m2.1, .int .i64 m2.2.1] 23)
  replace bZ := bZ.alloc (.cells #[.int .i64 m2.1, .int .i64 m2.2.1] 23)
  replace bM0 := bM0.alloc (.cells #[.int .i64 m2.1, .int .i64 m2.2.1] 23)
  replace bM1 := bM1.alloc (.cells #[.int .i64 m2.1, .int .i64 m2.2.1] 23)
  replace hB := hB.alloc hsz (.cells #[.int .i64 m2.1, .int .i64 m2.2.1] 23)
  have cM00 : (u4.alloc (.cells #[.int .i64 m2.1, .int .i64 m2.2.1] 23)).cell? ⟨gM0, 0, none⟩ = some (.int .i64 m0.1) := bM0.cell 0 _ rfl
  have cM01 : (u4.alloc (.cells #[.int .i64 m2.1, .int .i64 m2.2.1] 23)).cell? ⟨gM0, 1, none⟩ = some (.int .i64 m0.2.1) := bM0.cell 1 _ rfl
  have kM0 := bM0.lt
  have cM10 : (u4.alloc (.cells #[.int .i64 m2.1, .int .i64 m2.2.1] 23)).cell? ⟨gM1, 0, none⟩ = some (.int .i64 m1.1) := bM1.cell 0 _ rfl
  have cM11 : (u4.alloc (.cells #[.int .i64 m2.1, .int .i64 m2.2.1] 23)).cell? ⟨gM1, 1, none⟩ = some (.int .i64 m1.2.1) := bM1.cell 1 _ rfl
  have kM1 := bM1.lt
  have cM20 : (u4.alloc (.cells #[.int .i64 m2.1, .int .i64 m2.2.1] 23)).cell? ⟨u4.heap.size, 0, none⟩ = some (.int .i64 m2.1) := bM2.cell 0 _ rfl
  have cM21 : (u4.alloc (.cells #[.int .i64 m2.1, .int .i64 m2.2.1] 23)).cell? ⟨u4.heap.size, 1, none⟩ = some (.int .i64 m2.2.1) := bM2.cell 1 _ rfl
  have kM2 := bM2.lt
  go_wp2_with fail
  go_at_call 54
  refine (ht _).mono ?_
  rintro r u5 ⟨rfl, hb⟩
  replace bX0 := bX0.keep hb
  replace bZ := bZ.keep hb
  replace bM0 := bM0.keep hb
  replace bM1 := bM1.keep hb
  replace bM2 := bM2.keep hb
  replace hB := hB.trans (hb.mono (by have := hB.size; omega))
  clear hb cM00 cM01 kM0 cM10 cM11 kM1 cM20 cM21 kM2
  generalize u4.heap.size = gM2 at *
  clear hsz
  have lX0 := bX0.lt
  have lZ := bZ.lt
  have lM0 := bM0.lt
  have lM1 := bM1.lt
  have lM2 := bM2.lt
  have hsz : n ≤ u5.heap.size := by have := hB.size; omega
  try clear oZ oB
  have oZ := bZ
  have oB := hB
  have bS := Bn.new u5 #[.int .i64 t.1, .int .i64 t.2.1] 23
  replace bX0 := bX0.alloc (.cells #[.int .i64 t.1, .int .i64 t.2.1] 23)
  replace bZ := bZ.alloc (.cells #[.int .i64 t.1, .int .i64 t.2.1] 23)
  replace bM0 := bM0.alloc (.cells #[.int .i64 t.1, .int .i64 t.2.1] 23)
  replace bM1 := bM1.alloc (.cells #[.int .i64 t.1, .int .i64 t.2.1] 23)
  replace bM2 := bM2.alloc (.cells #[.int .i64 t.1, .int .i64 t.2.1] 23)
  replace hB := hB.alloc hsz (.cells #[.int .i64 t.1, .int .i64 t.2.1] 23)
  have cS0 : (u5.alloc (.cells #[.int .i64 t.1, .int .i64 t.2.1] 23)).cell? ⟨u5.heap.size, 0, none⟩ = some (.int .i64 t.1) := bS.cell 0 _ rfl
  have cS1 : (u5.alloc (.cells #[.int .i64 t.1, .int .i64 t.2.1] 23)).cell? ⟨u5.heap.size, 1, none⟩ = some (.int .i64 t.2.1) := bS.cell 1 _ rfl
  have kS := bS.lt
  go_wp2_with fail
  go_at_call 59
  refine (hq _).mono ?_
  rintro r u6 ⟨rfl, hb⟩
  replace bX0 := bX0.keep hb
  replace bZ := bZ.keep hb
  replace bM0 := bM0.keep hb
  replace bM1 := bM1.keep hb
  replace bM2 := bM2.keep hb
  replace bS := bS.keep hb
  replace hB := hB.trans (hb.mono (by have := hB.size; omega))
  clear hb cS0 cS1 kS
  generalize u5.heap.size = gS at *
  clear hsz
  have cZ0 : u6.cell? ⟨n + 1, 0, none⟩ = some (.int .i64 0) := bZ.cell 0 _ rfl
  have cZ1 : u6.cell? ⟨n + 1, 1, none⟩ = some (.int .i64 0) := bZ.cell 1 _ rfl
  have kZ := bZ.lt
  have zZ0 : u6.frozen? ⟨n + 1, 0, none⟩ = false := bZ.f 0
  have zZ1 : u6.frozen? ⟨n + 1, 1, none⟩ = false := bZ.f 1
  go_wp2
  refine bodyPost_ret (v := .tuple #[.agg #[.int .i64 q.1, .int .i64 q.2.1], .int .i64 q.2.2]) (by simp [results, Tryz.results24, go_sem, cZ0, zZ0, cZ1, zZ1, kZ]) rfl ⟨rfl, ?_⟩
  subst hn
  exact below2 hB (show w.heap.size ≤ w.heap.size + 1 by omega) _ _
set_option maxRecDepth 100000 in
set_option maxHeartbeats 4000000 in
theorem rNorm_no1 (a0 a1 a2 a3 a4 a5 : Int) (ka : ckV a0 a1 a2 a3 a4 a5 = 0) (h : (nS a0 a1 a2 a3 a4 a5).2.2 ≠ 0) (w : World) :
    Calls Tryz.prog 24 #[.agg #[.int .i64 a0, .int .i64 a1, .int .i64 a2, .int .i64 a3, .int .i64 a4, .int .i64 a5]] w fun r w' => r = .returned (.tuple #[.agg #[.int .i64 0, .int .i64 0], .int .i64 (nS a0 a1 a2 a3 a4 a5).2.2]) ∧ Below w.heap.size w w' := by
  have g1 := fun w => rRight6_ok a0 a1 a2 a3 a4 a5 ka w
  clear ka
  unfold nS at *
  have h0 := fun w => rSqr_any a0 a1 w
  generalize sSqrR a0 a1 = m0 at *
  have h1 := fun w => rSqr_any a2 a3 w
  generalize sSqrR a2 a3 = m1 at *
  have h2 := fun w => rSqr_any a4 a5 w
  generalize sSqrR a4 a5 = m2 at *
  have ht := fun w => rThree_any m0.1 m0.2.1 m1.1 m1.2.1 m2.1 m2.2.1 m0.2.2 m1.2.2 m2.2.2 w
  generalize sTold (fo (fo m0.2.2 (fo m1.2.2 m2.2.2)) (vSumR m0.1 m0.2.1 m1.1 m1.2.1 m2.1 m2.2.1).2.2) (vSumR m0.1 m0.2.1 m1.1 m1.2.1 m2.1 m2.2.1).1 (vSumR m0.1 m0.2.1 m1.1 m1.2.1 m2.1 m2.2.1).2.1 = t at *
  have y : (t.2.2 == 0) = false := beq_eq_false_iff_ne.2 h
  clear h
  have bX0 := Bn.new w #[.int .i64 a0, .int .i64 a1, .int .i64 a2, .int .i64 a3, .int .i64 a4, .int .i64 a5] 25
  replace bX0 := bX0.alloc (.cells #[.int .i64 0, .int .i64 0] 23)
  have bZ := Bn.new (w.alloc (.cells #[.int .i64 a0, .int .i64 a1, .int .i64 a2, .int .i64 a3, .int .i64 a4, .int .i64 a5] 25)) #[.int .i64 0, .int .i64 0] 23
  rw [show (w.alloc (.cells #[.int .i64 a0, .int .i64 a1, .int .i64 a2, .int .i64 a3, .int .i64 a4, .int .i64 a5] 25)).heap.size = w.heap.size + 1 by simp] at bZ
  have hB : Below w.heap.size w ((w.alloc (.cells #[.int .i64 a0, .int .i64 a1, .int .i64 a2, .int .i64 a3, .int .i64 a4, .int .i64 a5] 25)).alloc (.cells #[.int .i64 0, .int .i64 0] 23)) := by (repeat (first | with_reducible exact Below.refl _ _ | with_reducible assumption | refine Below.alloc ?_ (by (try simp); try omega) _ | refine Below.setCell ?_ (by (try simp); try omega) _ | refine below_drewN ?_ _ | refine Below.drew ?_ | (with_reducible refine Below.trans ?_ (Below.mono (by assumption) (by (try simp); try omega)))))
  generalize hv : ((w.alloc (.cells #[.int .i64 a0, .int .i64 a1, .int .i64 a2, .int .i64 a3, .int .i64 a4, .int .i64 a5] 25)).alloc (.cells #[.int .i64 0, .int .i64 0] 23)) = v0 at *
  generalize hn : w.heap.size = n at *
  have cX00 : v0.cell? ⟨n, 0, none⟩ = some (.int .i64 a0) := bX0.cell 0 _ rfl
  have cX01 : v0.cell? ⟨n, 1, none⟩ = some (.int .i64 a1) := bX0.cell 1 _ rfl
  have cX02 : v0.cell? ⟨n, 2, none⟩ = some (.int .i64 a2) := bX0.cell 2 _ rfl
  have cX03 : v0.cell? ⟨n, 3, none⟩ = some (.int .i64 a3) := bX0.cell 3 _ rfl
  have cX04 : v0.cell? ⟨n, 4, none⟩ = some (.int .i64 a4) := bX0.cell 4 _ rfl
  have cX05 : v0.cell? ⟨n, 5, none⟩ = some (.int .i64 a5) := bX0.cell 5 _ rfl
  have kX0 := bX0.lt
  subst hv
  subst hn
  go_enter Tryz.func24, Tryz.ntmps24
  go_wp2_with fail
  go_at_call 39
  refine (g1 _).mono ?_
  rintro r u1 ⟨rfl, hb⟩
  replace bX0 := bX0.keep hb
  replace bZ := bZ.keep hb
  replace hB := hB.trans (hb.mono hB.size)
  clear hb cX00 cX01 cX02 cX03 cX04 cX05 kX0
  generalize hn : w.heap.size = n at *
  have cX00 : u1.cell? ⟨n, 0, none⟩ = some (.int .i64 a0) := bX0.cell 0 _ rfl
  have cX01 : u1.cell? ⟨n, 1, none⟩ = some (.int .i64 a1) := bX0.cell 1 _ rfl
  have cX02 : u1.cell? ⟨n, 2, none⟩ = some (.int .i64 a2) := bX0.cell 2 _ rfl
  have cX03 : u1.cell? ⟨n, 3, none⟩ = some (.int .i64 a3) := bX0.cell 3 _ rfl
  have cX04 : u1.cell? ⟨n, 4, none⟩ = some (.int .i64 a4) := bX0.cell 4 _ rfl
  have cX05 : u1.cell? ⟨n, 5, none⟩ = some (.int .i64 a5) := bX0.cell 5 _ rfl
  have kX0 := bX0.lt
  go_wp2_with fail
  go_at_call 58
  refine (h0 _).mono ?_
  rintro r u2 ⟨rfl, hb⟩
  replace bX0 := bX0.keep hb
  replace bZ := bZ.keep hb
  replace hB := hB.trans (hb.mono (by have := hB.size; omega))
  clear hb cX00 cX01 cX02 cX03 cX04 cX05 kX0
  have lX0 := bX0.lt
  have lZ := bZ.lt
  have hsz : n ≤ u2.heap.size := by have := hB.size; omega
  try clear oZ oB
  have oZ := bZ
  have oB := hB
  have bM0 := Bn.new u2 #[.int .i64 m0.1, .int .i64 m0.2.1] 23
  replace bX0 := bX0.alloc (.cells #[.int .i64 m0.1, .int .i64 m0.2.1] 23)
  replace bZ := bZ.alloc (.cells #[.int .i64 m0.1, .int .i64 m0.2.1] 23)
  replace hB := hB.alloc hsz (.cells #[.int .i64 m0.1, .int .i64 m0.2.1] 23)
  have cX00 : (u2.alloc (.cells #[.int .i64 m0.1, .int .i64 m0.2.1] 23)).cell? ⟨n, 0, none⟩ = some (.int .i64 a0) := bX0.cell 0 _ rfl
  have cX01 : (u2.alloc (.cells #[.int .i64 m0.1, .int .i64 m0.2.1] 23)).cell? ⟨n, 1, none⟩ = some (.int .i64 a1) := bX0.cell 1 _ rfl
  have cX02 : (u2.alloc (.cells #[.int .i64 m0.1, .int .i64 m0.2.1] 23)).cell? ⟨n, 2, none⟩ = some (.int .i64 a2) := bX0.cell 2 _ rfl
  have cX03 : (u2.alloc (.cells #[.int .i64 m0.1, .int .i64 m0.2.1] 23)).cell? ⟨n, 3, none⟩ = some (.int .i64 a3) := bX0.cell 3 _ rfl
  have cX04 : (u2.alloc (.cells #[.int .i64 m0.1, .int .i64 m0.2.1] 23)).cell? ⟨n, 4, none⟩ = some (.int .i64 a4) := bX0.cell 4 _ rfl
  have cX05 : (u2.alloc (.cells #[.int .i64 m0.1, .int .i64 m0.2.1] 23)).cell? ⟨n, 5, none⟩ = some (.int .i64 a5) := bX0.cell 5 _ rfl
  have kX0 := bX0.lt
  go_wp2_with fail
  go_at_call 58
  refine (h1 _).mono ?_
  rintro r u3 ⟨rfl, hb⟩
  replace bX0 := bX0.keep hb
  replace bZ := bZ.keep hb
  replace bM0 := bM0.keep hb
  replace hB := hB.trans (hb.mono (by have := hB.size; omega))
  clear hb cX00 cX01 cX02 cX03 cX04 cX05 kX0
  generalize u2.heap.size = gM0 at *
  clear hsz
  have lX0 := bX0.lt
  have lZ := bZ.lt
  have lM0 := bM0.lt
  have hsz : n ≤ u3.heap.size := by have := hB.size; omega
  try clear oZ oB
  have oZ := bZ
  have oB := hB
  have bM1 := Bn.new u3 #[.int .i64 m1.1, .int .i64 m1.2.1] 23
  replace bX0 := bX0.alloc (.cells #[.int .i64 m1.1, .int .i64 m1.2.1] 23)
  replace bZ := bZ.alloc (.cells #[.int .i64 m1.1, .int .i64 m1.2.1] 23)
  replace bM0 := bM0.alloc (.cells #[.int .i64 m1.1, .int .i64 m1.2.1] 23)
  replace hB := hB.alloc hsz (.cells #[.int .i64 m1.1, .int .i64 m1.2.1] 23)
  have cX00 : (u3.alloc (.cells #[.int .i64 m1.1, .int .i64 m1.2.1] 23)).cell? ⟨n, 0, none⟩ = some (.int .i64 a0) := bX0.cell 0 _ rfl
  have cX01 : (u3.alloc (.cells #[.int .i64 m1.1, .int .i64 m1.2.1] 23)).cell? ⟨n, 1, none⟩ = some (.int .i64 a1) := bX0.cell 1 _ rfl
  have cX02 : (u3.alloc (.cells #[.int .i64 m1.1, .int .i64 m1.2.1] 23)).cell? ⟨n, 2, none⟩ = some (.int .i64 a2) := bX0.cell 2 _ rfl
  have cX03 : (u3.alloc (.cells #[.int .i64 m1.1, .int .i64 m1.2.1] 23)).cell? ⟨n, 3, none⟩ = some (.int .i64 a3) := bX0.cell 3 _ rfl
  have cX04 : (u3.alloc (.cells #[.int .i64 m1.1, .int .i64 m1.2.1] 23)).cell? ⟨n, 4, none⟩ = some (.int .i64 a4) := bX0.cell 4 _ rfl
  have cX05 : (u3.alloc (.cells #[.int .i64 m1.1, .int .i64 m1.2.1] 23)).cell? ⟨n, 5, none⟩ = some (.int .i64 a5) := bX0.cell 5 _ rfl
  have kX0 := bX0.lt
  go_wp2_with fail
  go_at_call 58
  refine (h2 _).mono ?_
  rintro r u4 ⟨rfl, hb⟩
  replace bX0 := bX0.keep hb
  replace bZ := bZ.keep hb
  replace bM0 := bM0.keep hb
  replace bM1 := bM1.keep hb
  replace hB := hB.trans (hb.mono (by have := hB.size; omega))
  clear hb cX00 cX01 cX02 cX03 cX04 cX05 kX0
  generalize u3.heap.size = gM1 at *
  clear hsz
  have lX0 := bX0.lt
  have lZ := bZ.lt
  have lM0 := bM0.lt
  have lM1 := bM1.lt
  have hsz : n ≤ u4.heap.size := by have := hB.size; omega
  try clear oZ oB
  have oZ := bZ
  have oB := hB
  have bM2 := Bn.new u4 #[.int .i64 m2.1, .int .i64 m2.2.1] 23
  replace bX0 := bX0.alloc (.cells #[.int .i64 m2.1, .int .i64 m2.2.1] 23)
  replace bZ := bZ.alloc (.cells #[.int .i64 m2.1, .int .i64 m2.2.1] 23)
  replace bM0 := bM0.alloc (.cells #[.int .i64 m2.1, .int .i64 m2.2.1] 23)
  replace bM1 := bM1.alloc (.cells #[.int .i64 m2.1, .int .i64 m2.2.1] 23)
  replace hB := hB.alloc hsz (.cells #[.int .i64 m2.1, .int .i64 m2.2.1] 23)
  have cM00 : (u4.alloc (.cells #[.int .i64 m2.1, .int .i64 m2.2.1] 23)).cell? ⟨gM0, 0, none⟩ = some (.int .i64 m0.1) := bM0.cell 0 _ rfl
  have cM01 : (u4.alloc (.cells #[.int .i64 m2.1, .int .i64 m2.2.1] 23)).cell? ⟨gM0, 1, none⟩ = some (.int .i64 m0.2.1) := bM0.cell 1 _ rfl
  have kM0 := bM0.lt
  have cM10 : (u4.alloc (.cells #[.int .i64 m2.1, .int .i64 m2.2.1] 23)).cell? ⟨gM1, 0, none⟩ = some (.int .i64 m1.1) := bM1.cell 0 _ rfl
  have cM11 : (u4.alloc (.cells #[.int .i64 m2.1, .int .i64 m2.2.1] 23)).cell? ⟨gM1, 1, none⟩ = some (.int .i64 m1.2.1) := bM1.cell 1 _ rfl
  have kM1 := bM1.lt
  have cM20 : (u4.alloc (.cells #[.int .i64 m2.1, .int .i64 m2.2.1] 23)).cell? ⟨u4.heap.size, 0, none⟩ = some (.int .i64 m2.1) := bM2.cell 0 _ rfl
  have cM21 : (u4.alloc (.cells #[.int .i64 m2.1, .int .i64 m2.2.1] 23)).cell? ⟨u4.heap.size, 1, none⟩ = some (.int .i64 m2.2.1) := bM2.cell 1 _ rfl
  have kM2 := bM2.lt
  go_wp2_with fail
  go_at_call 54
  refine (ht _).mono ?_
  rintro r u5 ⟨rfl, hb⟩
  replace bX0 := bX0.keep hb
  replace bZ := bZ.keep hb
  replace bM0 := bM0.keep hb
  replace bM1 := bM1.keep hb
  replace bM2 := bM2.keep hb
  replace hB := hB.trans (hb.mono (by have := hB.size; omega))
  clear hb cM00 cM01 kM0 cM10 cM11 kM1 cM20 cM21 kM2
  generalize u4.heap.size = gM2 at *
  clear hsz
  have lX0 := bX0.lt
  have lZ := bZ.lt
  have lM0 := bM0.lt
  have lM1 := bM1.lt
  have lM2 := bM2.lt
  have hsz : n ≤ u5.heap.size := by have := hB.size; omega
  try clear oZ oB
  have oZ := bZ
  have oB := hB
  have bS := Bn.new u5 #[.int .i64 t.1, .int .i64 t.2.1] 23
  replace bX0 := bX0.alloc (.cells #[.int .i64 t.1, .int .i64 t.2.1] 23)
  replace bZ := bZ.alloc (.cells #[.int .i64 t.1, .int .i64 t.2.1] 23)
  replace bM0 := bM0.alloc (.cells #[.int .i64 t.1, .int .i64 t.2.1] 23)
  replace bM1 := bM1.alloc (.cells #[.int .i64 t.1, .int .i64 t.2.1] 23)
  replace bM2 := bM2.alloc (.cells #[.int .i64 t.1, .int .i64 t.2.1] 23)
  replace hB := hB.alloc hsz (.cells #[.int .i64 t.1, .int .i64 t.2.1] 23)
  have cZ0 : (u5.alloc (.cells #[.int .i64 t.1, .int .i64 t.2.1] 23)).cell? ⟨n + 1, 0, none⟩ = some (.int .i64 0) := bZ.cell 0 _ rfl
  have cZ1 : (u5.alloc (.cells #[.int .i64 t.1, .int .i64 t.2.1] 23)).cell? ⟨n + 1, 1, none⟩ = some (.int .i64 0) := bZ.cell 1 _ rfl
  have kZ := bZ.lt
  have zZ0 : (u5.alloc (.cells #[.int .i64 t.1, .int .i64 t.2.1] 23)).frozen? ⟨n + 1, 0, none⟩ = false := bZ.f 0
  have zZ1 : (u5.alloc (.cells #[.int .i64 t.1, .int .i64 t.2.1] 23)).frozen? ⟨n + 1, 1, none⟩ = false := bZ.f 1
  have oc0 : u5.cell? ⟨n + 1, 0, none⟩ = some (.int .i64 0) := oZ.cell 0 _ rfl
  have oc1 : u5.cell? ⟨n + 1, 1, none⟩ = some (.int .i64 0) := oZ.cell 1 _ rfl
  have oz0 : u5.frozen? ⟨n + 1, 0, none⟩ = false := oZ.f 0
  have oz1 : u5.frozen? ⟨n + 1, 1, none⟩ = false := oZ.f 1
  have oZl := oZ.lt
  go_wp2
  refine bodyPost_ret (v := .tuple #[.agg #[.int .i64 0, .int .i64 0], .int .i64 t.2.2]) (by simp [results, Tryz.results24, go_sem, cZ0, zZ0, cZ1, zZ1, kZ, oZl, oc0, oz0, oc1, oz1]) rfl ⟨rfl, ?_⟩
  subst hn
  exact (below2 oB (show w.heap.size ≤ w.heap.size + 1 by omega) _ _).alloc (by simp; exact hsz) _
set_option maxRecDepth 100000 in
set_option maxHeartbeats 4000000 in
theorem rNorm_no0 (a0 a1 a2 a3 a4 a5 : Int) (ka : ckV a0 a1 a2 a3 a4 a5 ≠ 0) (w : World) :
    Calls Tryz.prog 24 #[.agg #[.int .i64 a0, .int .i64 a1, .int .i64 a2, .int .i64 a3, .int .i64 a4, .int .i64 a5]] w fun r w' => r = .returned (.tuple #[.agg #[.int .i64 0, .int .i64 0], .int .i64 20]) ∧ Below w.heap.size w w' := by
  have g1 := fun w => rRight6_no a0 a1 a2 a3 a4 a5 ka w
  clear ka
  have bX0 := Bn.new w #[.int .i64 a0, .int .i64 a1, .int .i64 a2, .int .i64 a3, .int .i64 a4, .int .i64 a5] 25
  replace bX0 := bX0.alloc (.cells #[.int .i64 0, .int .i64 0] 23)
  have bZ := Bn.new (w.alloc (.cells #[.int .i64 a0, .int .i64 a1, .int .i64 a2, .int .i64 a3, .int .i64 a4, .int .i64 a5] 25)) #[.int .i64 0, .int .i64 0] 23
  rw [show (w.alloc (.cells #[.int .i64 a0, .int .i64 a1, .int .i64 a2, .int .i64 a3, .int .i64 a4, .int .i64 a5] 25)).heap.size = w.heap.size + 1 by simp] at bZ
  have hB : Below w.heap.size w ((w.alloc (.cells #[.int .i64 a0, .int .i64 a1, .int .i64 a2, .int .i64 a3, .int .i64 a4, .int .i64 a5] 25)).alloc (.cells #[.int .i64 0, .int .i64 0] 23)) := by (repeat (first | with_reducible exact Below.refl _ _ | with_reducible assumption | refine Below.alloc ?_ (by (try simp); try omega) _ | refine Below.setCell ?_ (by (try simp); try omega) _ | refine below_drewN ?_ _ | refine Below.drew ?_ | (with_reducible refine Below.trans ?_ (Below.mono (by assumption) (by (try simp); try omega)))))
  generalize hv : ((w.alloc (.cells #[.int .i64 a0, .int .i64 a1, .int .i64 a2, .int .i64 a3, .int .i64 a4, .int .i64 a5] 25)).alloc (.cells #[.int .i64 0, .int .i64 0] 23)) = v0 at *
  generalize hn : w.heap.size = n at *
  have cX00 : v0.cell? ⟨n, 0, none⟩ = some (.int .i64 a0) := bX0.cell 0 _ rfl
  have cX01 : v0.cell? ⟨n, 1, none⟩ = some (.int .i64 a1) := bX0.cell 1 _ rfl
  have cX02 : v0.cell? ⟨n, 2, none⟩ = some (.int .i64 a2) := bX0.cell 2 _ rfl
  have cX03 : v0.cell? ⟨n, 3, none⟩ = some (.int .i64 a3) := bX0.cell 3 _ rfl
  have cX04 : v0.cell? ⟨n, 4, none⟩ = some (.int .i64 a4) := bX0.cell 4 _ rfl
  have cX05 : v0.cell? ⟨n, 5, none⟩ = some (.int .i64 a5) := bX0.cell 5 _ rfl
  have kX0 := bX0.lt
  subst hv
  subst hn
  go_enter Tryz.func24, Tryz.ntmps24
  go_wp2_with fail
  go_at_call 39
  refine (g1 _).mono ?_
  rintro r u1 ⟨rfl, hb⟩
  replace bX0 := bX0.keep hb
  replace bZ := bZ.keep hb
  replace hB := hB.trans (hb.mono hB.size)
  clear hb cX00 cX01 cX02 cX03 cX04 cX05 kX0
  generalize hn : w.heap.size = n at *
  have cZ0 : u1.cell? ⟨n + 1, 0, none⟩ = some (.int .i64 0) := bZ.cell 0 _ rfl
  have cZ1 : u1.cell? ⟨n + 1, 1, none⟩ = some (.int .i64 0) := bZ.cell 1 _ rfl
  have kZ := bZ.lt
  have zZ0 : u1.frozen? ⟨n + 1, 0, none⟩ = false := bZ.f 0
  have zZ1 : u1.frozen? ⟨n + 1, 1, none⟩ = false := bZ.f 1
  go_wp2
  refine bodyPost_ret (v := .tuple #[.agg #[.int .i64 0, .int .i64 0], .int .i64 20]) (by simp [results, Tryz.results24, go_sem, cZ0, zZ0, cZ1, zZ1, kZ]) rfl ⟨rfl, ?_⟩
  subst hn
  exact below2 hB (show w.heap.size ≤ w.heap.size + 1 by omega) _ _
theorem norm_p (a0 a1 a2 a3 a4 a5 : Int) (ka : ckV a0 a1 a2 a3 a4 a5 = 0) : vNormP a0 a1 a2 a3 a4 a5 = if (nS a0 a1 a2 a3 a4 a5).2.2 = 0 then sSqrtR (nS a0 a1 a2 a3 a4 a5).1 (nS a0 a1 a2 a3 a4 a5).2.1 else (0, 0, (nS a0 a1 a2 a3 a4 a5).2.2) := by
  have e1 : vNormS (vEachR sSqrR a0 a1 a2 a3 a4 a5) = vSumR (sSqrR a0 a1).1 (sSqrR a0 a1).2.1 (sSqrR a2 a3).1 (sSqrR a2 a3).2.1 (sSqrR a4 a5).1 (sSqrR a4 a5).2.1 := rfl
  have e2 : (vEachR sSqrR a0 a1 a2 a3 a4 a5).e = fo (sSqrR a0 a1).2.2 (fo (sSqrR a2 a3).2.2 (sSqrR a4 a5).2.2) := rfl
  unfold vNormP vNormR vNormT nS
  rw [ka, fo_zero]
  simp only []
  rw [e1, e2, ← fo_assoc]
  generalize fo (sSqrR a0 a1).2.2 (fo (sSqrR a2 a3).2.2 (sSqrR a4 a5).2.2) = e
  generalize vSumR (sSqrR a0 a1).1 (sSqrR a0 a1).2.1 (sSqrR a2 a3).1 (sSqrR a2 a3).2.1 (sSqrR a4 a5).1 (sSqrR a4 a5).2.1 = s
  rw [sTold_er]
  by_cases c : fo e s.2.2 = 0
  · rw [if_pos c, c, fo_zero]
    unfold sTold
    rw [if_pos rfl]
    by_cases d : (sSqrtR s.1 s.2.1).2.2 = 0
    · rw [if_pos d]; exact Prod.ext rfl (Prod.ext rfl d.symm)
    · rw [if_neg d]
      have z := sqrt_zero d
      exact Prod.ext z.1.symm (Prod.ext z.2.symm rfl)
  · rw [if_neg c, fo_ne c]
    unfold sTold
    rw [if_neg c]
theorem rNorm_any (a0 a1 a2 a3 a4 a5 : Int) (w : World) :
    Calls Tryz.prog 24 #[.agg #[.int .i64 a0, .int .i64 a1, .int .i64 a2, .int .i64 a3, .int .i64 a4, .int .i64 a5]] w fun r w' => r = .returned (.tuple #[.agg #[.int .i64 (vNormP a0 a1 a2 a3 a4 a5).1, .int .i64 (vNormP a0 a1 a2 a3 a4 a5).2.1], .int .i64 (vNormP a0 a1 a2 a3 a4 a5).2.2]) ∧ Below w.heap.size w w' := by
  by_cases ka : ckV a0 a1 a2 a3 a4 a5 = 0
  · rw [norm_p a0 a1 a2 a3 a4 a5 ka]
    by_cases h : (nS a0 a1 a2 a3 a4 a5).2.2 = 0
    · rw [if_pos h]; exact rNorm_ok a0 a1 a2 a3 a4 a5 ka h w
    · rw [if_neg h]; exact rNorm_no1 a0 a1 a2 a3 a4 a5 ka h w
  · have t := rNorm_no0 a0 a1 a2 a3 a4 a5 ka w
    have e : ckV a0 a1 a2 a3 a4 a5 = 20 := by unfold ckV at ka ⊢; split; (rename_i c; rw [if_pos c] at ka; exact absurd rfl ka); rfl
    rw [show vNormP a0 a1 a2 a3 a4 a5 = (0, 0, 20) from by unfold vNormP; rw [e]; rfl]
    exact t
theorem unit_no (a0 a1 a2 a3 a4 a5 : Int) (h : (vNormP a0 a1 a2 a3 a4 a5).2.2 ≠ 0) : vUnitR a0 a1 a2 a3 a4 a5 = ⟨0, 0, 0, 0, 0, 0, (vNormP a0 a1 a2 a3 a4 a5).2.2⟩ := by
  have e : (vNormP a0 a1 a2 a3 a4 a5).2.2 = fo (ckV a0 a1 a2 a3 a4 a5) (vNormR a0 a1 a2 a3 a4 a5).2.2 := by unfold vNormP; rw [sTold_er]
  rw [e] at h ⊢
  unfold vUnitR vTold
  rw [fo_ne h, if_neg h]
theorem unit_ok (a0 a1 a2 a3 a4 a5 : Int) (h : (vNormP a0 a1 a2 a3 a4 a5).2.2 = 0) : vUnitR a0 a1 a2 a3 a4 a5 = vTold (fo (sDivR a0 a1 (vNormP a0 a1 a2 a3 a4 a5).1 (vNormP a0 a1 a2 a3 a4 a5).2.1).2.2 (fo (sDivR a2 a3 (vNormP a0 a1 a2 a3 a4 a5).1 (vNormP a0 a1 a2 a3 a4 a5).2.1).2.2 (sDivR a4 a5 (vNormP a0 a1 a2 a3 a4 a5).1 (vNormP a0 a1 a2 a3 a4 a5).2.1).2.2)) ⟨(sDivR a0 a1 (vNormP a0 a1 a2 a3 a4 a5).1 (vNormP a0 a1 a2 a3 a4 a5).2.1).1, (sDivR a0 a1 (vNormP a0 a1 a2 a3 a4 a5).1 (vNormP a0 a1 a2 a3 a4 a5).2.1).2.1, (sDivR a2 a3 (vNormP a0 a1 a2 a3 a4 a5).1 (vNormP a0 a1 a2 a3 a4 a5).2.1).1, (sDivR a2 a3 (vNormP a0 a1 a2 a3 a4 a5).1 (vNormP a0 a1 a2 a3 a4 a5).2.1).2.1, (sDivR a4 a5 (vNormP a0 a1 a2 a3 a4 a5).1 (vNormP a0 a1 a2 a3 a4 a5).2.1).1, (sDivR a4 a5 (vNormP a0 a1 a2 a3 a4 a5).1 (vNormP a0 a1 a2 a3 a4 a5).2.1).2.1, 0⟩ := by
  have e : (vNormP a0 a1 a2 a3 a4 a5).2.2 = fo (ckV a0 a1 a2 a3 a4 a5) (vNormR a0 a1 a2 a3 a4 a5).2.2 := by unfold vNormP; rw [sTold_er]
  rw [e] at h
  have e1 : (vNormP a0 a1 a2 a3 a4 a5).1 = (vNormR a0 a1 a2 a3 a4 a5).1 := by unfold vNormP sTold; rw [h]; rfl
  have e2 : (vNormP a0 a1 a2 a3 a4 a5).2.1 = (vNormR a0 a1 a2 a3 a4 a5).2.1 := by unfold vNormP sTold; rw [h]; rfl
  rw [e1, e2]
  unfold vUnitR
  rw [h, fo_zero]
  rfl
set_option maxRecDepth 100000 in
set_option maxHeartbeats 4000000 in
theorem rUnit_no (a0 a1 a2 a3 a4 a5 : Int) (h : (vNormP a0 a1 a2 a3 a4 a5).2.2 ≠ 0) (w : World) :
    Calls Tryz.prog 26 #[.agg #[.int .i64 a0, .int .i64 a1, .int .i64 a2, .int .i64 a3, .int .i64 a4, .int .i64 a5]] w fun r w' => r = .returned (.tuple #[.agg #[.int .i64 0, .int .i64 0, .int .i64 0, .int .i64 0, .int .i64 0, .int .i64 0], .int .i64 (vNormP a0 a1 a2 a3 a4 a5).2.2]) ∧ Below w.heap.size w w' := by
  have h1 := fun w => rNorm_any a0 a1 a2 a3 a4 a5 w
  generalize vNormP a0 a1 a2 a3 a4 a5 = n_ at *
  have y : (n_.2.2 == 0) = false := beq_eq_false_iff_ne.2 h
  clear h
  have bX0 := Bn.new w #[.int .i64 a0, .int .i64 a1, .int .i64 a2, .int .i64 a3, .int .i64 a4, .int .i64 a5] 25
  replace bX0 := bX0.alloc (.cells #[.int .i64 0, .int .i64 0, .int .i64 0, .int .i64 0, .int .i64 0, .int .i64 0] 25)
  have bZ := Bn.new (w.alloc (.cells #[.int .i64 a0, .int .i64 a1, .int .i64 a2, .int .i64 a3, .int .i64 a4, .int .i64 a5] 25)) #[.int .i64 0, .int .i64 0, .int .i64 0, .int .i64 0, .int .i64 0, .int .i64 0] 25
  rw [show (w.alloc (.cells #[.int .i64 a0, .int .i64 a1, .int .i64 a2, .int .i64 a3, .int .i64 a4, .int .i64 a5] 25)).heap.size = w.heap.size + 1 by simp] at bZ
  have hB : Below w.heap.size w ((w.alloc (.cells #[.int .i64 a0, .int .i64 a1, .int .i64 a2, .int .i64 a3, .int .i64 a4, .int .i64 a5] 25)).alloc (.cells #[.int .i64 0, .int .i64 0, .int .i64 0, .int .i64 0, .int .i64 0, .int .i64 0] 25)) := by (repeat (first | with_reducible exact Below.refl _ _ | with_reducible assumption | refine Below.alloc ?_ (by (try simp); try omega) _ | refine Below.setCell ?_ (by (try simp); try omega) _ | refine below_drewN ?_ _ | refine Below.drew ?_ | (with_reducible refine Below.trans ?_ (Below.mono (by assumption) (by (try simp); try omega)))))
  generalize hv : ((w.alloc (.cells #[.int .i64 a0, .int .i64 a1, .int .i64 a2, .int .i64 a3, .int .i64 a4, .int .i64 a5] 25)).alloc (.cells #[.int .i64 0, .int .i64 0, .int .i64 0, .int .i64 0, .int .i64 0, .int .i64 0] 25)) = v0 at *
  generalize hn : w.heap.size = n at *
  have cX00 : v0.cell? ⟨n, 0, none⟩ = some (.int .i64 a0) := bX0.cell 0 _ rfl
  have cX01 : v0.cell? ⟨n, 1, none⟩ = some (.int .i64 a1) := bX0.cell 1 _ rfl
  have cX02 : v0.cell? ⟨n, 2, none⟩ = some (.int .i64 a2) := bX0.cell 2 _ rfl
  have cX03 : v0.cell? ⟨n, 3, none⟩ = some (.int .i64 a3) := bX0.cell 3 _ rfl
  have cX04 : v0.cell? ⟨n, 4, none⟩ = some (.int .i64 a4) := bX0.cell 4 _ rfl
  have cX05 : v0.cell? ⟨n, 5, none⟩ = some (.int .i64 a5) := bX0.cell 5 _ rfl
  have kX0 := bX0.lt
  subst hv
  subst hn
  go_enter Tryz.func26, Tryz.ntmps26
  go_wp2_with fail
  go_at_call 24
  refine (h1 _).mono ?_
  rintro r u1 ⟨rfl, hb⟩
  replace bX0 := bX0.keep hb
  replace bZ := bZ.keep hb
  replace hB := hB.trans (hb.mono hB.size)
  clear hb cX00 cX01 cX02 cX03 cX04 cX05 kX0
  generalize hn : w.heap.size = n at *
  have lX0 := bX0.lt
  have lZ := bZ.lt
  have hsz : n ≤ u1.heap.size := by have := hB.size; omega
  try clear oZ oB
  have oZ := bZ
  have oB := hB
  have bN := Bn.new u1 #[.int .i64 n_.1, .int .i64 n_.2.1] 23
  replace bX0 := bX0.alloc (.cells #[.int .i64 n_.1, .int .i64 n_.2.1] 23)
  replace bZ := bZ.alloc (.cells #[.int .i64 n_.1, .int .i64 n_.2.1] 23)
  replace hB := hB.alloc hsz (.cells #[.int .i64 n_.1, .int .i64 n_.2.1] 23)
  have cZ0 : (u1.alloc (.cells #[.int .i64 n_.1, .int .i64 n_.2.1] 23)).cell? ⟨n + 1, 0, none⟩ = some (.int .i64 0) := bZ.cell 0 _ rfl
  have cZ1 : (u1.alloc (.cells #[.int .i64 n_.1, .int .i64 n_.2.1] 23)).cell? ⟨n + 1, 1, none⟩ = some (.int .i64 0) := bZ.cell 1 _ rfl
  have cZ2 : (u1.alloc (.cells #[.int .i64 n_.1, .int .i64 n_.2.1] 23)).cell? ⟨n + 1, 2, none⟩ = some (.int .i64 0) := bZ.cell 2 _ rfl
  have cZ3 : (u1.alloc (.cells #[.int .i64 n_.1, .int .i64 n_.2.1] 23)).cell? ⟨n + 1, 3, none⟩ = some (.int .i64 0) := bZ.cell 3 _ rfl
  have cZ4 : (u1.alloc (.cells #[.int .i64 n_.1, .int .i64 n_.2.1] 23)).cell? ⟨n + 1, 4, none⟩ = some (.int .i64 0) := bZ.cell 4 _ rfl
  have cZ5 : (u1.alloc (.cells #[.int .i64 n_.1, .int .i64 n_.2.1] 23)).cell? ⟨n + 1, 5, none⟩ = some (.int .i64 0) := bZ.cell 5 _ rfl
  have kZ := bZ.lt
  have zZ0 : (u1.alloc (.cells #[.int .i64 n_.1, .int .i64 n_.2.1] 23)).frozen? ⟨n + 1, 0, none⟩ = false := bZ.f 0
  have zZ1 : (u1.alloc (.cells #[.int .i64 n_.1, .int .i64 n_.2.1] 23)).frozen? ⟨n + 1, 1, none⟩ = false := bZ.f 1
  have zZ2 : (u1.alloc (.cells #[.int .i64 n_.1, .int .i64 n_.2.1] 23)).frozen? ⟨n + 1, 2, none⟩ = false := bZ.f 2
  have zZ3 : (u1.alloc (.cells #[.int .i64 n_.1, .int .i64 n_.2.1] 23)).frozen? ⟨n + 1, 3, none⟩ = false := bZ.f 3
  have zZ4 : (u1.alloc (.cells #[.int .i64 n_.1, .int .i64 n_.2.1] 23)).frozen? ⟨n + 1, 4, none⟩ = false := bZ.f 4
  have zZ5 : (u1.alloc (.cells #[.int .i64 n_.1, .int .i64 n_.2.1] 23)).frozen? ⟨n + 1, 5, none⟩ = false := bZ.f 5
  have oc0 : u1.cell? ⟨n + 1, 0, none⟩ = some (.int .i64 0) := oZ.cell 0 _ rfl
  have oc1 : u1.cell? ⟨n + 1, 1, none⟩ = some (.int .i64 0) := oZ.cell 1 _ rfl
  have oc2 : u1.cell? ⟨n + 1, 2, none⟩ = some (.int .i64 0) := oZ.cell 2 _ rfl
  have oc3 : u1.cell? ⟨n + 1, 3, none⟩ = some (.int .i64 0) := oZ.cell 3 _ rfl
  have oc4 : u1.cell? ⟨n + 1, 4, none⟩ = some (.int .i64 0) := oZ.cell 4 _ rfl
  have oc5 : u1.cell? ⟨n + 1, 5, none⟩ = some (.int .i64 0) := oZ.cell 5 _ rfl
  have oz0 : u1.frozen? ⟨n + 1, 0, none⟩ = false := oZ.f 0
  have oz1 : u1.frozen? ⟨n + 1, 1, none⟩ = false := oZ.f 1
  have oz2 : u1.frozen? ⟨n + 1, 2, none⟩ = false := oZ.f 2
  have oz3 : u1.frozen? ⟨n + 1, 3, none⟩ = false := oZ.f 3
  have oz4 : u1.frozen? ⟨n + 1, 4, none⟩ = false := oZ.f 4
  have oz5 : u1.frozen? ⟨n + 1, 5, none⟩ = false := oZ.f 5
  have oZl := oZ.lt
  go_wp2
  refine bodyPost_ret (v := .tuple #[.agg #[.int .i64 0, .int .i64 0, .int .i64 0, .int .i64 0, .int .i64 0, .int .i64 0], .int .i64 n_.2.2]) (by simp [results, Tryz.results26, go_sem, cZ0, zZ0, cZ1, zZ1, cZ2, zZ2, cZ3, zZ3, cZ4, zZ4, cZ5, zZ5, kZ, oZl, oc0, oz0, oc1, oz1, oc2, oz2, oc3, oz3, oc4, oz4, oc5, oz5]) rfl ⟨rfl, ?_⟩
  subst hn
  exact (below6 oB (show w.heap.size ≤ w.heap.size + 1 by omega) _ _ _ _ _ _).alloc (by simp; exact hsz) _
set_option maxRecDepth 100000 in
set_option maxHeartbeats 4000000 in
theorem rUnit_ok (a0 a1 a2 a3 a4 a5 : Int) (h : (vNormP a0 a1 a2 a3 a4 a5).2.2 = 0) (w : World) :
    Calls Tryz.prog 26 #[.agg #[.int .i64 a0, .int .i64 a1, .int .i64 a2, .int .i64 a3, .int .i64 a4, .int .i64 a5]] w fun r w' => r = .returned (.tuple #[.agg #[.int .i64 (vUnitR a0 a1 a2 a3 a4 a5).x0, .int .i64 (vUnitR a0 a1 a2 a3 a4 a5).x1, .int .i64 (vUnitR a0 a1 a2 a3 a4 a5).y0, .int .i64 (vUnitR a0 a1 a2 a3 a4 a5).y1, .int .i64 (vUnitR a0 a1 a2 a3 a4 a5).z0, .int .i64 (vUnitR a0 a1 a2 a3 a4 a5).z1], .int .i64 (vUnitR a0 a1 a2 a3 a4 a5).e]) ∧ Below w.heap.size w w' := by
  rw [unit_ok a0 a1 a2 a3 a4 a5 h]
  have h1 := fun w => rNorm_any a0 a1 a2 a3 a4 a5 w
  rw [h] at h1
  clear h
  generalize vNormP a0 a1 a2 a3 a4 a5 = n_ at *
  have k0 := fun w => rDiv_any a0 a1 n_.1 n_.2.1 w
  generalize sDivR a0 a1 n_.1 n_.2.1 = m0 at *
  have k1 := fun w => rDiv_any a2 a3 n_.1 n_.2.1 w
  generalize sDivR a2 a3 n_.1 n_.2.1 = m1 at *
  have k2 := fun w => rDiv_any a4 a5 n_.1 n_.2.1 w
  generalize sDivR a4 a5 n_.1 n_.2.1 = m2 at *
  have ht := fun w => rVector_any m0.1 m0.2.1 m1.1 m1.2.1 m2.1 m2.2.1 m0.2.2 m1.2.2 m2.2.2 w
  generalize vTold (fo m0.2.2 (fo m1.2.2 m2.2.2)) ⟨m0.1, m0.2.1, m1.1, m1.2.1, m2.1, m2.2.1, 0⟩ = t at *
  have bX0 := Bn.new w #[.int .i64 a0, .int .i64 a1, .int .i64 a2, .int .i64 a3, .int .i64 a4, .int .i64 a5] 25
  replace bX0 := bX0.alloc (.cells #[.int .i64 0, .int .i64 0, .int .i64 0, .int .i64 0, .int .i64 0, .int .i64 0] 25)
  have bZ := Bn.new (w.alloc (.cells #[.int .i64 a0, .int .i64 a1, .int .i64 a2, .int .i64 a3, .int .i64 a4, .int .i64 a5] 25)) #[.int .i64 0, .int .i64 0, .int .i64 0, .int .i64 0, .int .i64 0, .int .i64 0] 25
  rw [show (w.alloc (.cells #[.int .i64 a0, .int .i64 a1, .int .i64 a2, .int .i64 a3, .int .i64 a4, .int .i64 a5] 25)).heap.size = w.heap.size + 1 by simp] at bZ
  have hB : Below w.heap.size w ((w.alloc (.cells #[.int .i64 a0, .int .i64 a1, .int .i64 a2, .int .i64 a3, .int .i64 a4, .int .i64 a5] 25)).alloc (.cells #[.int .i64 0, .int .i64 0, .int .i64 0, .int .i64 0, .int .i64 0, .int .i64 0] 25)) := by (repeat (first | with_reducible exact Below.refl _ _ | with_reducible assumption | refine Below.alloc ?_ (by (try simp); try omega) _ | refine Below.setCell ?_ (by (try simp); try omega) _ | refine below_drewN ?_ _ | refine Below.drew ?_ | (with_reducible refine Below.trans ?_ (Below.mono (by assumption) (by (try simp); try omega)))))
  generalize hv : ((w.alloc (.cells #[.int .i64 a0, .int .i64 a1, .int .i64 a2, .int .i64 a3, .int .i64 a4, .int .i64 a5] 25)).alloc (.cells #[.int .i64 0, .int .i64 0, .int .i64 0, .int .i64 0, .int .i64 0, .int .i64 0] 25)) = v0 at *
  generalize hn : w.heap.size = n at *
  have cX00 : v0.cell? ⟨n, 0, none⟩ = some (.int .i64 a0) := bX0.cell 0 _ rfl
  have cX01 : v0.cell? ⟨n, 1, none⟩ = some (.int .i64 a1) := bX0.cell 1 _ rfl
  have cX02 : v0.cell? ⟨n, 2, none⟩ = some (.int .i64 a2) := bX0.cell 2 _ rfl
  have cX03 : v0.cell? ⟨n, 3, none⟩ = some (.int .i64 a3) := bX0.cell 3 _ rfl
  have cX04 : v0.cell? ⟨n, 4, none⟩ = some (.int .i64 a4) := bX0.cell 4 _ rfl
  have cX05 : v0.cell? ⟨n, 5, none⟩ = some (.int .i64 a5) := bX0.cell 5 _ rfl
  have kX0 := bX0.lt
  subst hv
  subst hn
  go_enter Tryz.func26, Tryz.ntmps26
  go_wp2_with fail
  go_at_call 24
  refine (h1 _).mono ?_
  rintro r u1 ⟨rfl, hb⟩
  replace bX0 := bX0.keep hb
  replace bZ := bZ.keep hb
  replace hB := hB.trans (hb.mono hB.size)
  clear hb cX00 cX01 cX02 cX03 cX04 cX05 kX0
  generalize hn : w.heap.size = n at *
  have lX0 := bX0.lt
  have lZ := bZ.lt
  have hsz : n ≤ u1.heap.size := by have := hB.size; omega
  try clear oZ oB
  have oZ := bZ
  have oB := hB
  have bN := Bn.new u1 #[.int .i64 n_.1, .int .i64 n_.2.1] 23
  replace bX0 := bX0.alloc (.cells #[.int .i64 n_.1, .int .i64 n_.2.1] 23)
  replace bZ := bZ.alloc (.cells #[.int .i64 n_.1, .int .i64 n_.2.1] 23)
  replace hB := hB.alloc hsz (.cells #[.int .i64 n_.1, .int .i64 n_.2.1] 23)
  have cX00 : (u1.alloc (.cells #[.int .i64 n_.1, .int .i64 n_.2.1] 23)).cell? ⟨n, 0, none⟩ = some (.int .i64 a0) := bX0.cell 0 _ rfl
  have cX01 : (u1.alloc (.cells #[.int .i64 n_.1, .int .i64 n_.2.1] 23)).cell? ⟨n, 1, none⟩ = some (.int .i64 a1) := bX0.cell 1 _ rfl
  have cX02 : (u1.alloc (.cells #[.int .i64 n_.1, .int .i64 n_.2.1] 23)).cell? ⟨n, 2, none⟩ = some (.int .i64 a2) := bX0.cell 2 _ rfl
  have cX03 : (u1.alloc (.cells #[.int .i64 n_.1, .int .i64 n_.2.1] 23)).cell? ⟨n, 3, none⟩ = some (.int .i64 a3) := bX0.cell 3 _ rfl
  have cX04 : (u1.alloc (.cells #[.int .i64 n_.1, .int .i64 n_.2.1] 23)).cell? ⟨n, 4, none⟩ = some (.int .i64 a4) := bX0.cell 4 _ rfl
  have cX05 : (u1.alloc (.cells #[.int .i64 n_.1, .int .i64 n_.2.1] 23)).cell? ⟨n, 5, none⟩ = some (.int .i64 a5) := bX0.cell 5 _ rfl
  have kX0 := bX0.lt
  have cN0 : (u1.alloc (.cells #[.int .i64 n_.1, .int .i64 n_.2.1] 23)).cell? ⟨u1.heap.size, 0, none⟩ = some (.int .i64 n_.1) := bN.cell 0 _ rfl
  have cN1 : (u1.alloc (.cells #[.int .i64 n_.1, .int .i64 n_.2.1] 23)).cell? ⟨u1.heap.size, 1, none⟩ = some (.int .i64 n_.2.1) := bN.cell 1 _ rfl
  have kN := bN.lt
  go_wp2_with fail
  go_at_call 61
  refine (k0 _).mono ?_
  rintro r u2 ⟨rfl, hb⟩
  replace bX0 := bX0.keep hb
  replace bZ := bZ.keep hb
  replace bN := bN.keep hb
  replace hB := hB.trans (hb.mono (by have := hB.size; omega))
  clear hb cX00 cX01 cX02 cX03 cX04 cX05 kX0 cN0 cN1 kN
  generalize u1.heap.size = gN at *
  clear hsz
  have lX0 := bX0.lt
  have lZ := bZ.lt
  have lN := bN.lt
  have hsz : n ≤ u2.heap.size := by have := hB.size; omega
  try clear oZ oB
  have oZ := bZ
  have oB := hB
  have bM0 := Bn.new u2 #[.int .i64 m0.1, .int .i64 m0.2.1] 23
  replace bX0 := bX0.alloc (.cells #[.int .i64 m0.1, .int .i64 m0.2.1] 23)
  replace bZ := bZ.alloc (.cells #[.int .i64 m0.1, .int .i64 m0.2.1] 23)
  replace bN := bN.alloc (.cells #[.int .i64 m0.1, .int .i64 m0.2.1] 23)
  replace hB := hB.alloc hsz (.cells #[.int .i64 m0.1, .int .i64 m0.2.1] 23)
  have cX00 : (u2.alloc (.cells #[.int .i64 m0.1, .int .i64 m0.2.1] 23)).cell? ⟨n, 0, none⟩ = some (.int .i64 a0) := bX0.cell 0 _ rfl
  have cX01 : (u2.alloc (.cells #[.int .i64 m0.1, .int .i64 m0.2.1] 23)).cell? ⟨n, 1, none⟩ = some (.int .i64 a1) := bX0.cell 1 _ rfl
  have cX02 : (u2.alloc (.cells #[.int .i64 m0.1, .int .i64 m0.2.1] 23)).cell? ⟨n, 2, none⟩ = some (.int .i64 a2) := bX0.cell 2 _ rfl
  have cX03 : (u2.alloc (.cells #[.int .i64 m0.1, .int .i64 m0.2.1] 23)).cell? ⟨n, 3, none⟩ = some (.int .i64 a3) := bX0.cell 3 _ rfl
  have cX04 : (u2.alloc (.cells #[.int .i64 m0.1, .int .i64 m0.2.1] 23)).cell? ⟨n, 4, none⟩ = some (.int .i64 a4) := bX0.cell 4 _ rfl
  have cX05 : (u2.alloc (.cells #[.int .i64 m0.1, .int .i64 m0.2.1] 23)).cell? ⟨n, 5, none⟩ = some (.int .i64 a5) := bX0.cell 5 _ rfl
  have kX0 := bX0.lt
  have cN0 : (u2.alloc (.cells #[.int .i64 m0.1, .int .i64 m0.2.1] 23)).cell? ⟨gN, 0, none⟩ = some (.int .i64 n_.1) := bN.cell 0 _ rfl
  have cN1 : (u2.alloc (.cells #[.int .i64 m0.1, .int .i64 m0.2.1] 23)).cell? ⟨gN, 1, none⟩ = some (.int .i64 n_.2.1) := bN.cell 1 _ rfl
  have kN := bN.lt
  go_wp2_with fail
  go_at_call 61
  refine (k1 _).mono ?_
  rintro r u3 ⟨rfl, hb⟩
  replace bX0 := bX0.keep hb
  replace bZ := bZ.keep hb
  replace bN := bN.keep hb
  replace bM0 := bM0.keep hb
  replace hB := hB.trans (hb.mono (by have := hB.size; omega))
  clear hb cX00 cX01 cX02 cX03 cX04 cX05 kX0 cN0 cN1 kN
  generalize u2.heap.size = gM0 at *
  clear hsz
  have lX0 := bX0.lt
  have lZ := bZ.lt
  have lN := bN.lt
  have lM0 := bM0.lt
  have hsz : n ≤ u3.heap.size := by have := hB.size; omega
  try clear oZ oB
  have oZ := bZ
  have oB := hB
  have bM1 := Bn.new u3 #[.int .i64 m1.1, .int .i64 m1.2.1] 23
  replace bX0 := bX0.alloc (.cells #[.int .i64 m1.1, .int .i64 m1.2.1] 23)
  replace bZ := bZ.alloc (.cells #[.int .i64 m1.1, .int .i64 m1.2.1] 23)
  replace bN := bN.alloc (.cells #[.int .i64 m1.1, .int .i64 m1.2.1] 23)
  replace bM0 := bM0.alloc (.cells #[.int .i64 m1.1, .int .i64 m1.2.1] 23)
  replace hB := hB.alloc hsz (.cells #[.int .i64 m1.1, .int .i64 m1.2.1] 23)
  have cX00 : (u3.alloc (.cells #[.int .i64 m1.1, .int .i64 m1.2.1] 23)).cell? ⟨n, 0, none⟩ = some (.int .i64 a0) := bX0.cell 0 _ rfl
  have cX01 : (u3.alloc (.cells #[.int .i64 m1.1, .int .i64 m1.2.1] 23)).cell? ⟨n, 1, none⟩ = some (.int .i64 a1) := bX0.cell 1 _ rfl
  have cX02 : (u3.alloc (.cells #[.int .i64 m1.1, .int .i64 m1.2.1] 23)).cell? ⟨n, 2, none⟩ = some (.int .i64 a2) := bX0.cell 2 _ rfl
  have cX03 : (u3.alloc (.cells #[.int .i64 m1.1, .int .i64 m1.2.1] 23)).cell? ⟨n, 3, none⟩ = some (.int .i64 a3) := bX0.cell 3 _ rfl
  have cX04 : (u3.alloc (.cells #[.int .i64 m1.1, .int .i64 m1.2.1] 23)).cell? ⟨n, 4, none⟩ = some (.int .i64 a4) := bX0.cell 4 _ rfl
  have cX05 : (u3.alloc (.cells #[.int .i64 m1.1, .int .i64 m1.2.1] 23)).cell? ⟨n, 5, none⟩ = some (.int .i64 a5) := bX0.cell 5 _ rfl
  have kX0 := bX0.lt
  have cN0 : (u3.alloc (.cells #[.int .i64 m1.1, .int .i64 m1.2.1] 23)).cell? ⟨gN, 0, none⟩ = some (.int .i64 n_.1) := bN.cell 0 _ rfl
  have cN1 : (u3.alloc (.cells #[.int .i64 m1.1, .int .i64 m1.2.1] 23)).cell? ⟨gN, 1, none⟩ = some (.int .i64 n_.2.1) := bN.cell 1 _ rfl
  have kN := bN.lt
  go_wp2_with fail
  go_at_call 61
  refine (k2 _).mono ?_
  rintro r u4 ⟨rfl, hb⟩
  replace bX0 := bX0.keep hb
  replace bZ := bZ.keep hb
  replace bN := bN.keep hb
  replace bM0 := bM0.keep hb
  replace bM1 := bM1.keep hb
  replace hB := hB.trans (hb.mono (by have := hB.size; omega))
  clear hb cX00 cX01 cX02 cX03 cX04 cX05 kX0 cN0 cN1 kN
  generalize u3.heap.size = gM1 at *
  clear hsz
  have lX0 := bX0.lt
  have lZ := bZ.lt
  have lN := bN.lt
  have lM0 := bM0.lt
  have lM1 := bM1.lt
  have hsz : n ≤ u4.heap.size := by have := hB.size; omega
  try clear oZ oB
  have oZ := bZ
  have oB := hB
  have bM2 := Bn.new u4 #[.int .i64 m2.1, .int .i64 m2.2.1] 23
  replace bX0 := bX0.alloc (.cells #[.int .i64 m2.1, .int .i64 m2.2.1] 23)
  replace bZ := bZ.alloc (.cells #[.int .i64 m2.1, .int .i64 m2.2.1] 23)
  replace bN := bN.alloc (.cells #[.int .i64 m2.1, .int .i64 m2.2.1] 23)
  replace bM0 := bM0.alloc (.cells #[.int .i64 m2.1, .int .i64 m2.2.1] 23)
  replace bM1 := bM1.alloc (.cells #[.int .i64 m2.1, .int .i64 m2.2.1] 23)
  replace hB := hB.alloc hsz (.cells #[.int .i64 m2.1, .int .i64 m2.2.1] 23)
  have cM00 : (u4.alloc (.cells #[.int .i64 m2.1, .int .i64 m2.2.1] 23)).cell? ⟨gM0, 0, none⟩ = some (.int .i64 m0.1) := bM0.cell 0 _ rfl
  have cM01 : (u4.alloc (.cells #[.int .i64 m2.1, .int .i64 m2.2.1] 23)).cell? ⟨gM0, 1, none⟩ = some (.int .i64 m0.2.1) := bM0.cell 1 _ rfl
  have kM0 := bM0.lt
  have cM10 : (u4.alloc (.cells #[.int .i64 m2.1, .int .i64 m2.2.1] 23)).cell? ⟨gM1, 0, none⟩ = some (.int .i64 m1.1) := bM1.cell 0 _ rfl
  have cM11 : (u4.alloc (.cells #[.int .i64 m2.1, .int .i64 m2.2.1] 23)).cell? ⟨gM1, 1, none⟩ = some (.int .i64 m1.2.1) := bM1.cell 1 _ rfl
  have kM1 := bM1.lt
  have cM20 : (u4.alloc (.cells #[.int .i64 m2.1, .int .i64 m2.2.1] 23)).cell? ⟨u4.heap.size, 0, none⟩ = some (.int .i64 m2.1) := bM2.cell 0 _ rfl
  have cM21 : (u4.alloc (.cells #[.int .i64 m2.1, .int .i64 m2.2.1] 23)).cell? ⟨u4.heap.size, 1, none⟩ = some (.int .i64 m2.2.1) := bM2.cell 1 _ rfl
  have kM2 := bM2.lt
  go_wp2_with fail
  go_at_call 41
  refine (ht _).mono ?_
  rintro r u5 ⟨rfl, hb⟩
  replace bX0 := bX0.keep hb
  replace bZ := bZ.keep hb
  replace bN := bN.keep hb
  replace bM0 := bM0.keep hb
  replace bM1 := bM1.keep hb
  replace bM2 := bM2.keep hb
  replace hB := hB.trans (hb.mono (by have := hB.size; omega))
  clear hb cM00 cM01 kM0 cM10 cM11 kM1 cM20 cM21 kM2
  generalize u4.heap.size = gM2 at *
  clear hsz
  have cZ0 : u5.cell? ⟨n + 1, 0, none⟩ = some (.int .i64 0) := bZ.cell 0 _ rfl
  have cZ1 : u5.cell? ⟨n + 1, 1, none⟩ = some (.int .i64 0) := bZ.cell 1 _ rfl
  have cZ2 : u5.cell? ⟨n + 1, 2, none⟩ = some (.int .i64 0) := bZ.cell 2 _ rfl
  have cZ3 : u5.cell? ⟨n + 1, 3, none⟩ = some (.int .i64 0) := bZ.cell 3 _ rfl
  have cZ4 : u5.cell? ⟨n + 1, 4, none⟩ = some (.int .i64 0) := bZ.cell 4 _ rfl
  have cZ5 : u5.cell? ⟨n + 1, 5, none⟩ = some (.int .i64 0) := bZ.cell 5 _ rfl
  have kZ := bZ.lt
  have zZ0 : u5.frozen? ⟨n + 1, 0, none⟩ = false := bZ.f 0
  have zZ1 : u5.frozen? ⟨n + 1, 1, none⟩ = false := bZ.f 1
  have zZ2 : u5.frozen? ⟨n + 1, 2, none⟩ = false := bZ.f 2
  have zZ3 : u5.frozen? ⟨n + 1, 3, none⟩ = false := bZ.f 3
  have zZ4 : u5.frozen? ⟨n + 1, 4, none⟩ = false := bZ.f 4
  have zZ5 : u5.frozen? ⟨n + 1, 5, none⟩ = false := bZ.f 5
  go_wp2
  refine bodyPost_ret (v := .tuple #[.agg #[.int .i64 t.x0, .int .i64 t.x1, .int .i64 t.y0, .int .i64 t.y1, .int .i64 t.z0, .int .i64 t.z1], .int .i64 t.e]) (by simp [results, Tryz.results26, go_sem, cZ0, zZ0, cZ1, zZ1, cZ2, zZ2, cZ3, zZ3, cZ4, zZ4, cZ5, zZ5, kZ]) rfl ⟨rfl, ?_⟩
  subst hn
  exact below6 hB (show w.heap.size ≤ w.heap.size + 1 by omega) _ _ _ _ _ _
theorem rUnit_any (a0 a1 a2 a3 a4 a5 : Int) (w : World) :
    Calls Tryz.prog 26 #[.agg #[.int .i64 a0, .int .i64 a1, .int .i64 a2, .int .i64 a3, .int .i64 a4, .int .i64 a5]] w fun r w' => r = .returned (.tuple #[.agg #[.int .i64 (vUnitR a0 a1 a2 a3 a4 a5).x0, .int .i64 (vUnitR a0 a1 a2 a3 a4 a5).x1, .int .i64 (vUnitR a0 a1 a2 a3 a4 a5).y0, .int .i64 (vUnitR a0 a1 a2 a3 a4 a5).y1, .int .i64 (vUnitR a0 a1 a2 a3 a4 a5).z0, .int .i64 (vUnitR a0 a1 a2 a3 a4 a5).z1], .int .i64 (vUnitR a0 a1 a2 a3 a4 a5).e]) ∧ Below w.heap.size w w' := by
  by_cases h : (vNormP a0 a1 a2 a3 a4 a5).2.2 = 0
  · exact rUnit_ok a0 a1 a2 a3 a4 a5 h w
  · rw [unit_no a0 a1 a2 a3 a4 a5 h]; exact rUnit_no a0 a1 a2 a3 a4 a5 h w
end Go.Proofs.YtnfapdmbkpkkdaaGreat
