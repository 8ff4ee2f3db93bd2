/-
  Package vec: the function pairs with the calculator's sub.
-/
import Derived.Test.YtnfapdmbkpkkdaaGreatVcB
namespace Go.Proofs.YtnfapdmbkpkkdaaGreat
open Go.RowKit

set_option maxHeartbeats 4000000 in
theorem pairs_sub (p : Nat) (e a0 a1 a2 a3 a4 a5 d0 d1 d2 d3 d4 d5 : Int) (w : World) (hC : Cl w p e) :
    Calls Tryz.prog 37 #[.func (.func 42) #[.pointer (some ⟨p, 0, none⟩)] #[], .agg #[.int .i64 a0, .int .i64 a1, .int .i64 a2, .int .i64 a3, .int .i64 a4, .int .i64 a5], .agg #[.int .i64 d0, .int .i64 d1, .int .i64 d2, .int .i64 d3, .int .i64 d4, .int .i64 d5]] w fun r w' => r = .returned (.agg #[.int .i64 (vPairR sSubR a0 a1 a2 a3 a4 a5 d0 d1 d2 d3 d4 d5).x0, .int .i64 (vPairR sSubR a0 a1 a2 a3 a4 a5 d0 d1 d2 d3 d4 d5).x1, .int .i64 (vPairR sSubR a0 a1 a2 a3 a4 a5 d0 d1 d2 d3 d4 d5).y0, .int .i64 (vPairR sSubR a0 a1 a2 a3 a4 a5 d0 d1 d2 d3 d4 d5).y1, .int .i64 (vPairR sSubR a0 a1 a2 a3 a4 a5 d0 d1 d2 d3 d4 d5).z0, .int .i64 (vPairR sSubR a0 a1 a2 a3 a4 a5 d0 d1 d2 d3 d4 d5).z1]) ∧ Cl w' p (fo e (vPairR sSubR a0 a1 a2 a3 a4 a5 d0 d1 d2 d3 d4 d5).e) ∧ Ke p w w' := by
  simp only [vPairR]
  have h0 := fun e w h => vSub_any p e a0 a1 d0 d1 w h
  generalize sSubR a0 a1 d0 d1 = m0 at *
  have h1 := fun e w h => vSub_any p e a2 a3 d2 d3 w h
  generalize sSubR a2 a3 d2 d3 = m1 at *
  have h2 := fun e w h => vSub_any p e a4 a5 d4 d5 w h
  generalize sSubR a4 a5 d4 d5 = m2 at *
  have b0 := (((Bn.new w #[.int .i64 a0, .int .i64 a1, .int .i64 a2, .int .i64 a3, .int .i64 a4, .int .i64 a5] 25).alloc (.cells #[.int .i64 d0, .int .i64 d1, .int .i64 d2, .int .i64 d3, .int .i64 d4, .int .i64 d5] 25)).alloc (.cells #[.int .i64 0, .int .i64 0, .int .i64 0, .int .i64 0, .int .i64 0, .int .i64 0] 25))
  have b1 := ((Bn.new (w.alloc (.cells #[.int .i64 a0, .int .i64 a1, .int .i64 a2, .int .i64 a3, .int .i64 a4, .int .i64 a5] 25)) #[.int .i64 d0, .int .i64 d1, .int .i64 d2, .int .i64 d3, .int .i64 d4, .int .i64 d5] 25).alloc (.cells #[.int .i64 0, .int .i64 0, .int .i64 0, .int .i64 0, .int .i64 0, .int .i64 0] 25))
  rw [show (w.alloc (.cells #[.int .i64 a0, .int .i64 a1, .int .i64 a2, .int .i64 a3, .int .i64 a4, .int .i64 a5] 25)).heap.size = w.heap.size + 1 by simp] at b1
  have b2 := (Bn.new ((w.alloc (.cells #[.int .i64 a0, .int .i64 a1, .int .i64 a2, .int .i64 a3, .int .i64 a4, .int .i64 a5] 25)).alloc (.cells #[.int .i64 d0, .int .i64 d1, .int .i64 d2, .int .i64 d3, .int .i64 d4, .int .i64 d5] 25)) #[.int .i64 0, .int .i64 0, .int .i64 0, .int .i64 0, .int .i64 0, .int .i64 0] 25)
  rw [show ((w.alloc (.cells #[.int .i64 a0, .int .i64 a1, .int .i64 a2, .int .i64 a3, .int .i64 a4, .int .i64 a5] 25)).alloc (.cells #[.int .i64 d0, .int .i64 d1, .int .i64 d2, .int .i64 d3, .int .i64 d4, .int .i64 d5] 25)).heap.size = w.heap.size + 2 by simp] at b2
  have hC2 := (((hC.alloc (.cells #[.int .i64 a0, .int .i64 a1, .int .i64 a2, .int .i64 a3, .int .i64 a4, .int .i64 a5] 25)).alloc (.cells #[.int .i64 d0, .int .i64 d1, .int .i64 d2, .int .i64 d3, .int .i64 d4, .int .i64 d5] 25)).alloc (.cells #[.int .i64 0, .int .i64 0, .int .i64 0, .int .i64 0, .int .i64 0, .int .i64 0] 25))
  have l0 := hC.lt
  have hk0 : Ke p w (((w.alloc (.cells #[.int .i64 a0, .int .i64 a1, .int .i64 a2, .int .i64 a3, .int .i64 a4, .int .i64 a5] 25)).alloc (.cells #[.int .i64 d0, .int .i64 d1, .int .i64 d2, .int .i64 d3, .int .i64 d4, .int .i64 d5] 25)).alloc (.cells #[.int .i64 0, .int .i64 0, .int .i64 0, .int .i64 0, .int .i64 0, .int .i64 0] 25)) := Ke.of (by (repeat (first | with_reducible exact Below.refl _ _ | with_reducible assumption | refine Below.alloc ?_ (by (try simp); try omega) _ | refine Below.setCell ?_ (by (try simp); try omega) _ | refine below_drewN ?_ _ | refine Below.drew ?_ | (with_reducible refine Below.trans ?_ (Below.mono (by assumption) (by (try simp); try omega))))))
  clear hC
  go_enter Tryz.func37, Tryz.ntmps37
  go_wp2_with fail
  generalize (((w.alloc (.cells #[.int .i64 a0, .int .i64 a1, .int .i64 a2, .int .i64 a3, .int .i64 a4, .int .i64 a5] 25)).alloc (.cells #[.int .i64 d0, .int .i64 d1, .int .i64 d2, .int .i64 d3, .int .i64 d4, .int .i64 d5] 25)).alloc (.cells #[.int .i64 0, .int .i64 0, .int .i64 0, .int .i64 0, .int .i64 0, .int .i64 0] 25)) = v0 at *
  generalize hn : w.heap.size = n at *
  have cb00 : v0.cell? ⟨n, 0, none⟩ = some (.int .i64 a0) := b0.cell 0 _ rfl
  have cb01 : v0.cell? ⟨n, 1, none⟩ = some (.int .i64 a1) := b0.cell 1 _ rfl
  have cb02 : v0.cell? ⟨n, 2, none⟩ = some (.int .i64 a2) := b0.cell 2 _ rfl
  have cb03 : v0.cell? ⟨n, 3, none⟩ = some (.int .i64 a3) := b0.cell 3 _ rfl
  have cb04 : v0.cell? ⟨n, 4, none⟩ = some (.int .i64 a4) := b0.cell 4 _ rfl
  have cb05 : v0.cell? ⟨n, 5, none⟩ = some (.int .i64 a5) := b0.cell 5 _ rfl
  clear b0
  have cb10 : v0.cell? ⟨n + 1, 0, none⟩ = some (.int .i64 d0) := b1.cell 0 _ rfl
  have cb11 : v0.cell? ⟨n + 1, 1, none⟩ = some (.int .i64 d1) := b1.cell 1 _ rfl
  have cb12 : v0.cell? ⟨n + 1, 2, none⟩ = some (.int .i64 d2) := b1.cell 2 _ rfl
  have cb13 : v0.cell? ⟨n + 1, 3, none⟩ = some (.int .i64 d3) := b1.cell 3 _ rfl
  have cb14 : v0.cell? ⟨n + 1, 4, none⟩ = some (.int .i64 d4) := b1.cell 4 _ rfl
  have cb15 : v0.cell? ⟨n + 1, 5, none⟩ = some (.int .i64 d5) := b1.cell 5 _ rfl
  clear b1
  go_region_held3 (fun w' => w'.cell? ⟨n, 0, none⟩ = some (.int .i64 a0) ∧ w'.cell? ⟨n, 1, none⟩ = some (.int .i64 a1) ∧ w'.cell? ⟨n, 2, none⟩ = some (.int .i64 a2) ∧ w'.cell? ⟨n, 3, none⟩ = some (.int .i64 a3) ∧ w'.cell? ⟨n, 4, none⟩ = some (.int .i64 a4) ∧ w'.cell? ⟨n, 5, none⟩ = some (.int .i64 a5) ∧ w'.cell? ⟨n + 1, 0, none⟩ = some (.int .i64 d0) ∧ w'.cell? ⟨n + 1, 1, none⟩ = some (.int .i64 d1) ∧ w'.cell? ⟨n + 1, 2, none⟩ = some (.int .i64 d2) ∧ w'.cell? ⟨n + 1, 3, none⟩ = some (.int .i64 d3) ∧ w'.cell? ⟨n + 1, 4, none⟩ = some (.int .i64 d4) ∧ w'.cell? ⟨n + 1, 5, none⟩ = some (.int .i64 d5))
    (first | with_reducible exact ⟨cb00, cb01, cb02, cb03, cb04, cb05, cb10, cb11, cb12, cb13, cb14, cb15⟩ | with_reducible exact ⟨cellDrewI cb00, cellDrewI cb01, cellDrewI cb02, cellDrewI cb03, cellDrewI cb04, cellDrewI cb05, cellDrewI cb10, cellDrewI cb11, cellDrewI cb12, cellDrewI cb13, cellDrewI cb14, cellDrewI cb15⟩ | with_reducible exact ⟨cellFar6 cb00 (by omega) _ _ _ _ _ _, cellFar6 cb01 (by omega) _ _ _ _ _ _, cellFar6 cb02 (by omega) _ _ _ _ _ _, cellFar6 cb03 (by omega) _ _ _ _ _ _, cellFar6 cb04 (by omega) _ _ _ _ _ _, cellFar6 cb05 (by omega) _ _ _ _ _ _, cellFar6 cb10 (by omega) _ _ _ _ _ _, cellFar6 cb11 (by omega) _ _ _ _ _ _, cellFar6 cb12 (by omega) _ _ _ _ _ _, cellFar6 cb13 (by omega) _ _ _ _ _ _, cellFar6 cb14 (by omega) _ _ _ _ _ _, cellFar6 cb15 (by omega) _ _ _ _ _ _⟩)
    (first | (go_at_call 42; (with_reducible refine (h0 _ _ (by first | with_reducible exact hC2 | with_reducible exact clDrew hC2)).mono ?_); rintro r uz ⟨rfl, hC3, hk⟩; (with_reducible (first | (replace hk := keDrew hk) | skip)); replace b2 := b2.ke (by omega) hk; have z0 := b2.f 0; have z1 := b2.f 1; have z2 := b2.f 2; have z3 := b2.f 3; have z4 := b2.f 4; have z5 := b2.f 5; have y0 := b2.cell 0 _ rfl; have y1 := b2.cell 1 _ rfl; have y2 := b2.cell 2 _ rfl; have y3 := b2.cell 3 _ rfl; have y4 := b2.cell 4 _ rfl; have y5 := b2.cell 5 _ rfl; have lz := b2.lt; replace cb00 := hk.cellK cb00 (show n ≠ p by omega); replace cb01 := hk.cellK cb01 (show n ≠ p by omega); replace cb02 := hk.cellK cb02 (show n ≠ p by omega); replace cb03 := hk.cellK cb03 (show n ≠ p by omega); replace cb04 := hk.cellK cb04 (show n ≠ p by omega); replace cb05 := hk.cellK cb05 (show n ≠ p by omega); replace cb10 := hk.cellK cb10 (show n + 1 ≠ p by omega); replace cb11 := hk.cellK cb11 (show n + 1 ≠ p by omega); replace cb12 := hk.cellK cb12 (show n + 1 ≠ p by omega); replace cb13 := hk.cellK cb13 (show n + 1 ≠ p by omega); replace cb14 := hk.cellK cb14 (show n + 1 ≠ p by omega); replace cb15 := hk.cellK cb15 (show n + 1 ≠ p by omega); replace hk0 := hk0.trans hk; clear hk hC2; have hC2 := hC3; clear hC3) | (go_at_call 42; (with_reducible refine (h1 _ _ (by first | with_reducible exact hC2 | with_reducible exact clDrew hC2)).mono ?_); rintro r uz ⟨rfl, hC3, hk⟩; (with_reducible (first | (replace hk := keDrew hk) | skip)); replace b2 := b2.ke (by omega) hk; have z0 := b2.f 0; have z1 := b2.f 1; have z2 := b2.f 2; have z3 := b2.f 3; have z4 := b2.f 4; have z5 := b2.f 5; have y0 := b2.cell 0 _ rfl; have y1 := b2.cell 1 _ rfl; have y2 := b2.cell 2 _ rfl; have y3 := b2.cell 3 _ rfl; have y4 := b2.cell 4 _ rfl; have y5 := b2.cell 5 _ rfl; have lz := b2.lt; replace cb00 := hk.cellK cb00 (show n ≠ p by omega); replace cb01 := hk.cellK cb01 (show n ≠ p by omega); replace cb02 := hk.cellK cb02 (show n ≠ p by omega); replace cb03 := hk.cellK cb03 (show n ≠ p by omega); replace cb04 := hk.cellK cb04 (show n ≠ p by omega); replace cb05 := hk.cellK cb05 (show n ≠ p by omega); replace cb10 := hk.cellK cb10 (show n + 1 ≠ p by omega); replace cb11 := hk.cellK cb11 (show n + 1 ≠ p by omega); replace cb12 := hk.cellK cb12 (show n + 1 ≠ p by omega); replace cb13 := hk.cellK cb13 (show n + 1 ≠ p by omega); replace cb14 := hk.cellK cb14 (show n + 1 ≠ p by omega); replace cb15 := hk.cellK cb15 (show n + 1 ≠ p by omega); replace hk0 := hk0.trans hk; clear hk hC2; have hC2 := hC3; clear hC3) | (go_at_call 42; (with_reducible refine (h2 _ _ (by first | with_reducible exact hC2 | with_reducible exact clDrew hC2)).mono ?_); rintro r uz ⟨rfl, hC3, hk⟩; (with_reducible (first | (replace hk := keDrew hk) | skip)); replace b2 := b2.ke (by omega) hk; have z0 := b2.f 0; have z1 := b2.f 1; have z2 := b2.f 2; have z3 := b2.f 3; have z4 := b2.f 4; have z5 := b2.f 5; have y0 := b2.cell 0 _ rfl; have y1 := b2.cell 1 _ rfl; have y2 := b2.cell 2 _ rfl; have y3 := b2.cell 3 _ rfl; have y4 := b2.cell 4 _ rfl; have y5 := b2.cell 5 _ rfl; have lz := b2.lt; replace cb00 := hk.cellK cb00 (show n ≠ p by omega); replace cb01 := hk.cellK cb01 (show n ≠ p by omega); replace cb02 := hk.cellK cb02 (show n ≠ p by omega); replace cb03 := hk.cellK cb03 (show n ≠ p by omega); replace cb04 := hk.cellK cb04 (show n ≠ p by omega); replace cb05 := hk.cellK cb05 (show n ≠ p by omega); replace cb10 := hk.cellK cb10 (show n + 1 ≠ p by omega); replace cb11 := hk.cellK cb11 (show n + 1 ≠ p by omega); replace cb12 := hk.cellK cb12 (show n + 1 ≠ p by omega); replace cb13 := hk.cellK cb13 (show n + 1 ≠ p by omega); replace cb14 := hk.cellK cb14 (show n + 1 ≠ p by omega); replace cb15 := hk.cellK cb15 (show n + 1 ≠ p by omega); replace hk0 := hk0.trans hk; clear hk hC2; have hC2 := hC3; clear hC3))
  have s0 := b2.cell 0 _ rfl
  have s1 := b2.cell 1 _ rfl
  have s2 := b2.cell 2 _ rfl
  have s3 := b2.cell 3 _ rfl
  have s4 := b2.cell 4 _ rfl
  have s5 := b2.cell 5 _ rfl
  have z0 := b2.f 0
  have z1 := b2.f 1
  have z2 := b2.f 2
  have z3 := b2.f 3
  have z4 := b2.f 4
  have z5 := b2.f 5
  have l2 := b2.lt
  go_wp2
  refine bodyPost_ret (v := .agg #[.int .i64 m0.1, .int .i64 m0.2.1, .int .i64 m1.1, .int .i64 m1.2.1, .int .i64 m2.1, .int .i64 m2.2.1]) (by simp [results, Tryz.results37, go_sem, s0, z0, s1, z1, s2, z2, s3, z3, s4, z4, s5, z5, l2]) rfl ⟨rfl, ?_, ?_⟩
  · rw [← fo_assoc, ← fo_assoc]; exact Bn.far6 hC2 (by omega) _ _ _ _ _ _
  · exact hk0.put6 (by omega) _ _ _ _ _ _
end Go.Proofs.YtnfapdmbkpkkdaaGreat
