/-
  Package vec: Cross and Unit.
-/
import Derived.Test.YtnfapdmbkpkkdaaGreatVcE
namespace Go.Proofs.YtnfapdmbkpkkdaaGreat
open Go.RowKit

def vCompM (a a' b b' c c' d d' : Int) : Int × Int × Int := sSubR (sMulR a a' b b').1 (sMulR a a' b b').2.1 (sMulR c c' d d').1 (sMulR c c' d d').2.1
/-- A component of the cross product: a b - c d. -/
def vCompR (a a' b b' c c' d d' : Int) : Int × Int × Int :=
  ((vCompM a a' b b' c c' d d').1, (vCompM a a' b b' c c' d d').2.1, fo (sMulR a a' b b').2.2 (fo (sMulR c c' d d').2.2 (vCompM a a' b b' c c' d d').2.2))
set_option maxRecDepth 100000 in
set_option maxHeartbeats 4000000 in
theorem vComp0_any (g6 gA gB c : Nat) (e a0 a1 a2 a3 a4 a5 d0 d1 d2 d3 d4 d5 : Int) (w : World) (hC : Cl w c e) (h6 : Bn w g6 #[.pointer (some ⟨c, 0, none⟩)] 59) (hA : Bn w gA #[.int .i64 a0, .int .i64 a1, .int .i64 a2, .int .i64 a3, .int .i64 a4, .int .i64 a5] 25) (hB : Bn w gB #[.int .i64 d0, .int .i64 d1, .int .i64 d2, .int .i64 d3, .int .i64 d4, .int .i64 d5] 25) (n6 : g6 ≠ c) (nA : gA ≠ c) (nB : gB ≠ c) :
    Calls Tryz.prog 55 #[.int .i64 1, .int .i64 2, .pointer (some ⟨g6, 0, none⟩), .pointer (some ⟨gA, 0, none⟩), .pointer (some ⟨gB, 0, none⟩)] w fun r w' => r = .returned (.agg #[.int .i64 (vCompR a2 a3 d4 d5 a4 a5 d2 d3).1, .int .i64 (vCompR a2 a3 d4 d5 a4 a5 d2 d3).2.1]) ∧ Cl w' c (fo e (vCompR a2 a3 d4 d5 a4 a5 d2 d3).2.2) ∧ Ke c w w' := by
  simp only [vCompR, vCompM]
  have h0 := fun e w h => vMul_any c e a2 a3 d4 d5 w h
  generalize sMulR a2 a3 d4 d5 = m0 at *
  have h1 := fun e w h => vMul_any c e a4 a5 d2 d3 w h
  generalize sMulR a4 a5 d2 d3 = m1 at *
  have h2 := fun e w h => vSub_any c e m0.1 m0.2.1 m1.1 m1.2.1 w h
  generalize sSubR m0.1 m0.2.1 m1.1 m1.2.1 = m2 at *
  have l0 := hC.lt
  have l6 := h6.lt
  have lA := hA.lt
  have lB := hB.lt
  have b0 := Bn.new w #[.int .i64 0, .int .i64 0] 23
  replace hC := hC.alloc (.cells #[.int .i64 0, .int .i64 0] 23)
  replace h6 := h6.alloc (.cells #[.int .i64 0, .int .i64 0] 23)
  replace hA := hA.alloc (.cells #[.int .i64 0, .int .i64 0] 23)
  replace hB := hB.alloc (.cells #[.int .i64 0, .int .i64 0] 23)
  have hk0 : Ke c w (w.alloc (.cells #[.int .i64 0, .int .i64 0] 23)) := Ke.of (by (repeat (first | with_reducible exact Below.refl _ _ | with_reducible assumption | refine Below.alloc ?_ (by (try simp); try omega) _ | refine Below.setCell ?_ (by (try simp); try omega) _ | refine below_drewN ?_ _ | refine Below.drew ?_ | (with_reducible refine Below.trans ?_ (Below.mono (by assumption) (by (try simp); try omega))))))
  go_enter Tryz.func55, Tryz.ntmps55
  go_wp2_with fail
  generalize (w.alloc (.cells #[.int .i64 0, .int .i64 0] 23)) = v0 at *
  generalize hn : w.heap.size = n at *
  have c6 : v0.cell? ⟨g6, 0, none⟩ = some (.pointer (some ⟨c, 0, none⟩)) := h6.cell 0 _ rfl
  have cA0 : v0.cell? ⟨gA, 0, none⟩ = some (.int .i64 a0) := hA.cell 0 _ rfl
  have cA1 : v0.cell? ⟨gA, 1, none⟩ = some (.int .i64 a1) := hA.cell 1 _ rfl
  have cA2 : v0.cell? ⟨gA, 2, none⟩ = some (.int .i64 a2) := hA.cell 2 _ rfl
  have cA3 : v0.cell? ⟨gA, 3, none⟩ = some (.int .i64 a3) := hA.cell 3 _ rfl
  have cA4 : v0.cell? ⟨gA, 4, none⟩ = some (.int .i64 a4) := hA.cell 4 _ rfl
  have cA5 : v0.cell? ⟨gA, 5, none⟩ = some (.int .i64 a5) := hA.cell 5 _ rfl
  have cB0 : v0.cell? ⟨gB, 0, none⟩ = some (.int .i64 d0) := hB.cell 0 _ rfl
  have cB1 : v0.cell? ⟨gB, 1, none⟩ = some (.int .i64 d1) := hB.cell 1 _ rfl
  have cB2 : v0.cell? ⟨gB, 2, none⟩ = some (.int .i64 d2) := hB.cell 2 _ rfl
  have cB3 : v0.cell? ⟨gB, 3, none⟩ = some (.int .i64 d3) := hB.cell 3 _ rfl
  have cB4 : v0.cell? ⟨gB, 4, none⟩ = some (.int .i64 d4) := hB.cell 4 _ rfl
  have cB5 : v0.cell? ⟨gB, 5, none⟩ = some (.int .i64 d5) := hB.cell 5 _ rfl
  clear h6 hA hB
  go_region_held3 (fun w' => w'.cell? ⟨g6, 0, none⟩ = some (.pointer (some ⟨c, 0, none⟩)) ∧ w'.cell? ⟨gA, 0, none⟩ = some (.int .i64 a0) ∧ w'.cell? ⟨gA, 1, none⟩ = some (.int .i64 a1) ∧ w'.cell? ⟨gA, 2, none⟩ = some (.int .i64 a2) ∧ w'.cell? ⟨gA, 3, none⟩ = some (.int .i64 a3) ∧ w'.cell? ⟨gA, 4, none⟩ = some (.int .i64 a4) ∧ w'.cell? ⟨gA, 5, none⟩ = some (.int .i64 a5) ∧ w'.cell? ⟨gB, 0, none⟩ = some (.int .i64 d0) ∧ w'.cell? ⟨gB, 1, none⟩ = some (.int .i64 d1) ∧ w'.cell? ⟨gB, 2, none⟩ = some (.int .i64 d2) ∧ w'.cell? ⟨gB, 3, none⟩ = some (.int .i64 d3) ∧ w'.cell? ⟨gB, 4, none⟩ = some (.int .i64 d4) ∧ w'.cell? ⟨gB, 5, none⟩ = some (.int .i64 d5))
    (first | with_reducible exact ⟨c6, cA0, cA1, cA2, cA3, cA4, cA5, cB0, cB1, cB2, cB3, cB4, cB5⟩ | with_reducible exact ⟨cellDrewI c6, cellDrewI cA0, cellDrewI cA1, cellDrewI cA2, cellDrewI cA3, cellDrewI cA4, cellDrewI cA5, cellDrewI cB0, cellDrewI cB1, cellDrewI cB2, cellDrewI cB3, cellDrewI cB4, cellDrewI cB5⟩ | with_reducible exact ⟨cellFar2 c6 (by omega) _ _, cellFar2 cA0 (by omega) _ _, cellFar2 cA1 (by omega) _ _, cellFar2 cA2 (by omega) _ _, cellFar2 cA3 (by omega) _ _, cellFar2 cA4 (by omega) _ _, cellFar2 cA5 (by omega) _ _, cellFar2 cB0 (by omega) _ _, cellFar2 cB1 (by omega) _ _, cellFar2 cB2 (by omega) _ _, cellFar2 cB3 (by omega) _ _, cellFar2 cB4 (by omega) _ _, cellFar2 cB5 (by omega) _ _⟩)
    (first | (go_at_call 49; (with_reducible refine (h0 _ _ (by first | with_reducible exact hC | with_reducible exact clDrew hC)).mono ?_); rintro r uz ⟨rfl, hC3, hk⟩; (with_reducible (first | (replace hk := keDrew hk) | skip)); replace b0 := b0.ke (by omega) hk; have z0 := b0.f 0; have z1 := b0.f 1; have y0 := b0.cell 0 _ rfl; have y1 := b0.cell 1 _ rfl; have lz := b0.lt; replace c6 := hk.cellK c6 (show g6 ≠ c by omega); replace cA0 := hk.cellK cA0 (show gA ≠ c by omega); replace cA1 := hk.cellK cA1 (show gA ≠ c by omega); replace cA2 := hk.cellK cA2 (show gA ≠ c by omega); replace cA3 := hk.cellK cA3 (show gA ≠ c by omega); replace cA4 := hk.cellK cA4 (show gA ≠ c by omega); replace cA5 := hk.cellK cA5 (show gA ≠ c by omega); replace cB0 := hk.cellK cB0 (show gB ≠ c by omega); replace cB1 := hk.cellK cB1 (show gB ≠ c by omega); replace cB2 := hk.cellK cB2 (show gB ≠ c by omega); replace cB3 := hk.cellK cB3 (show gB ≠ c by omega); replace cB4 := hk.cellK cB4 (show gB ≠ c by omega); replace cB5 := hk.cellK cB5 (show gB ≠ c by omega); replace hk0 := hk0.trans hk; clear hk hC; have hC := hC3; clear hC3) | (go_at_call 49; (with_reducible refine (h1 _ _ (by first | with_reducible exact hC | with_reducible exact clDrew hC)).mono ?_); rintro r uz ⟨rfl, hC3, hk⟩; (with_reducible (first | (replace hk := keDrew hk) | skip)); replace b0 := b0.ke (by omega) hk; have z0 := b0.f 0; have z1 := b0.f 1; have y0 := b0.cell 0 _ rfl; have y1 := b0.cell 1 _ rfl; have lz := b0.lt; replace c6 := hk.cellK c6 (show g6 ≠ c by omega); replace cA0 := hk.cellK cA0 (show gA ≠ c by omega); replace cA1 := hk.cellK cA1 (show gA ≠ c by omega); replace cA2 := hk.cellK cA2 (show gA ≠ c by omega); replace cA3 := hk.cellK cA3 (show gA ≠ c by omega); replace cA4 := hk.cellK cA4 (show gA ≠ c by omega); replace cA5 := hk.cellK cA5 (show gA ≠ c by omega); replace cB0 := hk.cellK cB0 (show gB ≠ c by omega); replace cB1 := hk.cellK cB1 (show gB ≠ c by omega); replace cB2 := hk.cellK cB2 (show gB ≠ c by omega); replace cB3 := hk.cellK cB3 (show gB ≠ c by omega); replace cB4 := hk.cellK cB4 (show gB ≠ c by omega); replace cB5 := hk.cellK cB5 (show gB ≠ c by omega); replace hk0 := hk0.trans hk; clear hk hC; have hC := hC3; clear hC3) | (go_at_call 42; (with_reducible refine (h2 _ _ (by first | with_reducible exact hC | with_reducible exact clDrew hC)).mono ?_); rintro r uz ⟨rfl, hC3, hk⟩; (with_reducible (first | (replace hk := keDrew hk) | skip)); replace b0 := b0.ke (by omega) hk; have z0 := b0.f 0; have z1 := b0.f 1; have y0 := b0.cell 0 _ rfl; have y1 := b0.cell 1 _ rfl; have lz := b0.lt; replace c6 := hk.cellK c6 (show g6 ≠ c by omega); replace cA0 := hk.cellK cA0 (show gA ≠ c by omega); replace cA1 := hk.cellK cA1 (show gA ≠ c by omega); replace cA2 := hk.cellK cA2 (show gA ≠ c by omega); replace cA3 := hk.cellK cA3 (show gA ≠ c by omega); replace cA4 := hk.cellK cA4 (show gA ≠ c by omega); replace cA5 := hk.cellK cA5 (show gA ≠ c by omega); replace cB0 := hk.cellK cB0 (show gB ≠ c by omega); replace cB1 := hk.cellK cB1 (show gB ≠ c by omega); replace cB2 := hk.cellK cB2 (show gB ≠ c by omega); replace cB3 := hk.cellK cB3 (show gB ≠ c by omega); replace cB4 := hk.cellK cB4 (show gB ≠ c by omega); replace cB5 := hk.cellK cB5 (show gB ≠ c by omega); replace hk0 := hk0.trans hk; clear hk hC; have hC := hC3; clear hC3))
  have y0 := b0.cell 0 _ rfl
  have y1 := b0.cell 1 _ rfl
  have z0 := b0.f 0
  have z1 := b0.f 1
  have lz := b0.lt
  go_wp2
  refine bodyPost_ret (v := .agg #[.int .i64 m2.1, .int .i64 m2.2.1]) (by simp [results, Tryz.results55, go_sem, y0, y1, z0, z1, lz]) rfl ⟨rfl, ?_, ?_⟩
  · rw [← fo_assoc, ← fo_assoc]; exact Bn.far2 hC (by omega) _ _
  · exact hk0.put2 (by omega) _ _
set_option maxRecDepth 100000 in
set_option maxHeartbeats 4000000 in
theorem vComp1_any (g6 gA gB c : Nat) (e a0 a1 a2 a3 a4 a5 d0 d1 d2 d3 d4 d5 : Int) (w : World) (hC : Cl w c e) (h6 : Bn w g6 #[.pointer (some ⟨c, 0, none⟩)] 59) (hA : Bn w gA #[.int .i64 a0, .int .i64 a1, .int .i64 a2, .int .i64 a3, .int .i64 a4, .int .i64 a5] 25) (hB : Bn w gB #[.int .i64 d0, .int .i64 d1, .int .i64 d2, .int .i64 d3, .int .i64 d4, .int .i64 d5] 25) (n6 : g6 ≠ c) (nA : gA ≠ c) (nB : gB ≠ c) :
    Calls Tryz.prog 55 #[.int .i64 2, .int .i64 0, .pointer (some ⟨g6, 0, none⟩), .pointer (some ⟨gA, 0, none⟩), .pointer (some ⟨gB, 0, none⟩)] w fun r w' => r = .returned (.agg #[.int .i64 (vCompR a4 a5 d0 d1 a0 a1 d4 d5).1, .int .i64 (vCompR a4 a5 d0 d1 a0 a1 d4 d5).2.1]) ∧ Cl w' c (fo e (vCompR a4 a5 d0 d1 a0 a1 d4 d5).2.2) ∧ Ke c w w' := by
  simp only [vCompR, vCompM]
  have h0 := fun e w h => vMul_any c e a4 a5 d0 d1 w h
  generalize sMulR a4 a5 d0 d1 = m0 at *
  have h1 := fun e w h => vMul_any c e a0 a1 d4 d5 w h
  generalize sMulR a0 a1 d4 d5 = m1 at *
  have h2 := fun e w h => vSub_any c e m0.1 m0.2.1 m1.1 m1.2.1 w h
  generalize sSubR m0.1 m0.2.1 m1.1 m1.2.1 = m2 at *
  have l0 := hC.lt
  have l6 := h6.lt
  have lA := hA.lt
  have lB := hB.lt
  have b0 := Bn.new w #[.int .i64 0, .int .i64 0] 23
  replace hC := hC.alloc (.cells #[.int .i64 0, .int .i64 0] 23)
  replace h6 := h6.alloc (.cells #[.int .i64 0, .int .i64 0] 23)
  replace hA := hA.alloc (.cells #[.int .i64 0, .int .i64 0] 23)
  replace hB := hB.alloc (.cells #[.int .i64 0, .int .i64 0] 23)
  have hk0 : Ke c w (w.alloc (.cells #[.int .i64 0, .int .i64 0] 23)) := Ke.of (by (repeat (first | with_reducible exact Below.refl _ _ | with_reducible assumption | refine Below.alloc ?_ (by (try simp); try omega) _ | refine Below.setCell ?_ (by (try simp); try omega) _ | refine below_drewN ?_ _ | refine Below.drew ?_ | (with_reducible refine Below.trans ?_ (Below.mono (by assumption) (by (try simp); try omega))))))
  go_enter Tryz.func55, Tryz.ntmps55
  go_wp2_with fail
  generalize (w.alloc (.cells #[.int .i64 0, .int .i64 0] 23)) = v0 at *
  generalize hn : w.heap.size = n at *
  have c6 : v0.cell? ⟨g6, 0, none⟩ = some (.pointer (some ⟨c, 0, none⟩)) := h6.cell 0 _ rfl
  have cA0 : v0.cell? ⟨gA, 0, none⟩ = some (.int .i64 a0) := hA.cell 0 _ rfl
  have cA1 : v0.cell? ⟨gA, 1, none⟩ = some (.int .i64 a1) := hA.cell 1 _ rfl
  have cA2 : v0.cell? ⟨gA, 2, none⟩ = some (.int .i64 a2) := hA.cell 2 _ rfl
  have cA3 : v0.cell? ⟨gA, 3, none⟩ = some (.int .i64 a3) := hA.cell 3 _ rfl
  have cA4 : v0.cell? ⟨gA, 4, none⟩ = some (.int .i64 a4) := hA.cell 4 _ rfl
  have cA5 : v0.cell? ⟨gA, 5, none⟩ = some (.int .i64 a5) := hA.cell 5 _ rfl
  have cB0 : v0.cell? ⟨gB, 0, none⟩ = some (.int .i64 d0) := hB.cell 0 _ rfl
  have cB1 : v0.cell? ⟨gB, 1, none⟩ = some (.int .i64 d1) := hB.cell 1 _ rfl
  have cB2 : v0.cell? ⟨gB, 2, none⟩ = some (.int .i64 d2) := hB.cell 2 _ rfl
  have cB3 : v0.cell? ⟨gB, 3, none⟩ = some (.int .i64 d3) := hB.cell 3 _ rfl
  have cB4 : v0.cell? ⟨gB, 4, none⟩ = some (.int .i64 d4) := hB.cell 4 _ rfl
  have cB5 : v0.cell? ⟨gB, 5, none⟩ = some (.int .i64 d5) := hB.cell 5 _ rfl
  clear h6 hA hB
  go_region_held3 (fun w' => w'.cell? ⟨g6, 0, none⟩ = some (.pointer (some ⟨c, 0, none⟩)) ∧ w'.cell? ⟨gA, 0, none⟩ = some (.int .i64 a0) ∧ w'.cell? ⟨gA, 1, none⟩ = some (.int .i64 a1) ∧ w'.cell? ⟨gA, 2, none⟩ = some (.int .i64 a2) ∧ w'.cell? ⟨gA, 3, none⟩ = some (.int .i64 a3) ∧ w'.cell? ⟨gA, 4, none⟩ = some (.int .i64 a4) ∧ w'.cell? ⟨gA, 5, none⟩ = some (.int .i64 a5) ∧ w'.cell? ⟨gB, 0, none⟩ = some (.int .i64 d0) ∧ w'.cell? ⟨gB, 1, none⟩ = some (.int .i64 d1) ∧ w'.cell? ⟨gB, 2, none⟩ = some (.int .i64 d2) ∧ w'.cell? ⟨gB, 3, none⟩ = some (.int .i64 d3) ∧ w'.cell? ⟨gB, 4, none⟩ = some (.int .i64 d4) ∧ w'.cell? ⟨gB, 5, none⟩ = some (.int .i64 d5))
    (first | with_reducible exact ⟨c6, cA0, cA1, cA2, cA3, cA4, cA5, cB0, cB1, cB2, cB3, cB4, cB5⟩ | with_reducible exact ⟨cellDrewI c6, cellDrewI cA0, cellDrewI cA1, cellDrewI cA2, cellDrewI cA3, cellDrewI cA4, cellDrewI cA5, cellDrewI cB0, cellDrewI cB1, cellDrewI cB2, cellDrewI cB3, cellDrewI cB4, cellDrewI cB5⟩ | with_reducible exact ⟨cellFar2 c6 (by omega) _ _, cellFar2 cA0 (by omega) _ _, cellFar2 cA1 (by omega) _ _, cellFar2 cA2 (by omega) _ _, cellFar2 cA3 (by omega) _ _, cellFar2 cA4 (by omega) _ _, cellFar2 cA5 (by omega) _ _, cellFar2 cB0 (by omega) _ _, cellFar2 cB1 (by omega) _ _, cellFar2 cB2 (by omega) _ _, cellFar2 cB3 (by omega) _ _, cellFar2 cB4 (by omega) _ _, cellFar2 cB5 (by omega) _ _⟩)
    (first | (go_at_call 49; (with_reducible refine (h0 _ _ (by first | with_reducible exact hC | with_reducible exact clDrew hC)).mono ?_); rintro r uz ⟨rfl, hC3, hk⟩; (with_reducible (first | (replace hk := keDrew hk) | skip)); replace b0 := b0.ke (by omega) hk; have z0 := b0.f 0; have z1 := b0.f 1; have y0 := b0.cell 0 _ rfl; have y1 := b0.cell 1 _ rfl; have lz := b0.lt; replace c6 := hk.cellK c6 (show g6 ≠ c by omega); replace cA0 := hk.cellK cA0 (show gA ≠ c by omega); replace cA1 := hk.cellK cA1 (show gA ≠ c by omega); replace cA2 := hk.cellK cA2 (show gA ≠ c by omega); replace cA3 := hk.cellK cA3 (show gA ≠ c by omega); replace cA4 := hk.cellK cA4 (show gA ≠ c by omega); replace cA5 := hk.cellK cA5 (show gA ≠ c by omega); replace cB0 := hk.cellK cB0 (show gB ≠ c by omega); replace cB1 := hk.cellK cB1 (show gB ≠ c by omega); replace cB2 := hk.cellK cB2 (show gB ≠ c by omega); replace cB3 := hk.cellK cB3 (show gB ≠ c by omega); replace cB4 := hk.cellK cB4 (show gB ≠ c by omega); replace cB5 := hk.cellK cB5 (show gB ≠ c by omega); replace hk0 := hk0.trans hk; clear hk hC; have hC := hC3; clear hC3) | (go_at_call 49; (with_reducible refine (h1 _ _ (by first | with_reducible exact hC | with_reducible exact clDrew hC)).mono ?_); rintro r uz ⟨rfl, hC3, hk⟩; (with_reducible (first | (replace hk := keDrew hk) | skip)); replace b0 := b0.ke (by omega) hk; have z0 := b0.f 0; have z1 := b0.f 1; have y0 := b0.cell 0 _ rfl; have y1 := b0.cell 1 _ rfl; have lz := b0.lt; replace c6 := hk.cellK c6 (show g6 ≠ c by omega); replace cA0 := hk.cellK cA0 (show gA ≠ c by omega); replace cA1 := hk.cellK cA1 (show gA ≠ c by omega); replace cA2 := hk.cellK cA2 (show gA ≠ c by omega); replace cA3 := hk.cellK cA3 (show gA ≠ c by omega); replace cA4 := hk.cellK cA4 (show gA ≠ c by omega); replace cA5 := hk.cellK cA5 (show gA ≠ c by omega); replace cB0 := hk.cellK cB0 (show gB ≠ c by omega); replace cB1 := hk.cellK cB1 (show gB ≠ c by omega); replace cB2 := hk.cellK cB2 (show gB ≠ c by omega); replace cB3 := hk.cellK cB3 (show gB ≠ c by omega); replace cB4 := hk.cellK cB4 (show gB ≠ c by omega); replace cB5 := hk.cellK cB5 (show gB ≠ c by omega); replace hk0 := hk0.trans hk; clear hk hC; have hC := hC3; clear hC3) | (go_at_call 42; (with_reducible refine (h2 _ _ (by first | with_reducible exact hC | with_reducible exact clDrew hC)).mono ?_); rintro r uz ⟨rfl, hC3, hk⟩; (with_reducible (first | (replace hk := keDrew hk) | skip)); replace b0 := b0.ke (by omega) hk; have z0 := b0.f 0; have z1 := b0.f 1; have y0 := b0.cell 0 _ rfl; have y1 := b0.cell 1 _ rfl; have lz := b0.lt; replace c6 := hk.cellK c6 (show g6 ≠ c by omega); replace cA0 := hk.cellK cA0 (show gA ≠ c by omega); replace cA1 := hk.cellK cA1 (show gA ≠ c by omega); replace cA2 := hk.cellK cA2 (show gA ≠ c by omega); replace cA3 := hk.cellK cA3 (show gA ≠ c by omega); replace cA4 := hk.cellK cA4 (show gA ≠ c by omega); replace cA5 := hk.cellK cA5 (show gA ≠ c by omega); replace cB0 := hk.cellK cB0 (show gB ≠ c by omega); replace cB1 := hk.cellK cB1 (show gB ≠ c by omega); replace cB2 := hk.cellK cB2 (show gB ≠ c by omega); replace cB3 := hk.cellK cB3 (show gB ≠ c by omega); replace cB4 := hk.cellK cB4 (show gB ≠ c by omega); replace cB5 := hk.cellK cB5 (show gB ≠ c by omega); replace hk0 := hk0.trans hk; clear hk hC; have hC := hC3; clear hC3))
  have y0 := b0.cell 0 _ rfl
  have y1 := b0.cell 1 _ rfl
  have z0 := b0.f 0
  have z1 := b0.f 1
  have lz := b0.lt
  go_wp2
  refine bodyPost_ret (v := .agg #[.int .i64 m2.1, .int .i64 m2.2.1]) (by simp [results, Tryz.results55, go_sem, y0, y1, z0, z1, lz]) rfl ⟨rfl, ?_, ?_⟩
  · rw [← fo_assoc, ← fo_assoc]; exact Bn.far2 hC (by omega) _ _
  · exact hk0.put2 (by omega) _ _
set_option maxRecDepth 100000 in
set_option maxHeartbeats 4000000 in
theorem vComp2_any (g6 gA gB c : Nat) (e a0 a1 a2 a3 a4 a5 d0 d1 d2 d3 d4 d5 : Int) (w : World) (hC : Cl w c e) (h6 : Bn w g6 #[.pointer (some ⟨c, 0, none⟩)] 59) (hA : Bn w gA #[.int .i64 a0, .int .i64 a1, .int .i64 a2, .int .i64 a3, .int .i64 a4, .int .i64 a5] 25) (hB : Bn w gB #[.int .i64 d0, .int .i64 d1, .int .i64 d2, .int .i64 d3, .int .i64 d4, .int .i64 d5] 25) (n6 : g6 ≠ c) (nA : gA ≠ c) (nB : gB ≠ c) :
    Calls Tryz.prog 55 #[.int .i64 0, .int .i64 1, .pointer (some ⟨g6, 0, none⟩), .pointer (some ⟨gA, 0, none⟩), .pointer (some ⟨gB, 0, none⟩)] w fun r w' => r = .returned (.agg #[.int .i64 (vCompR a0 a1 d2 d3 a2 a3 d0 d1).1, .int .i64 (vCompR a0 a1 d2 d3 a2 a3 d0 d1).2.1]) ∧ Cl w' c (fo e (vCompR a0 a1 d2 d3 a2 a3 d0 d1).2.2) ∧ Ke c w w' := by
  simp only [vCompR, vCompM]
  have h0 := fun e w h => vMul_any c e a0 a1 d2 d3 w h
  generalize sMulR a0 a1 d2 d3 = m0 at *
  have h1 := fun e w h => vMul_any c e a2 a3 d0 d1 w h
  generalize sMulR a2 a3 d0 d1 = m1 at *
  have h2 := fun e w h => vSub_any c e m0.1 m0.2.1 m1.1 m1.2.1 w h
  generalize sSubR m0.1 m0.2.1 m1.1 m1.2.1 = m2 at *
  have l0 := hC.lt
  have l6 := h6.lt
  have lA := hA.lt
  have lB := hB.lt
  have b0 := Bn.new w #[.int .i64 0, .int .i64 0] 23
  replace hC := hC.alloc (.cells #[.int .i64 0, .int .i64 0] 23)
  replace h6 := h6.alloc (.cells #[.int .i64 0, .int .i64 0] 23)
  replace hA := hA.alloc (.cells #[.int .i64 0, .int .i64 0] 23)
  replace hB := hB.alloc (.cells #[.int .i64 0, .int .i64 0] 23)
  have hk0 : Ke c w (w.alloc (.cells #[.int .i64 0, .int .i64 0] 23)) := Ke.of (by (repeat (first | with_reducible exact Below.refl _ _ | with_reducible assumption | refine Below.alloc ?_ (by (try simp); try omega) _ | refine Below.setCell ?_ (by (try simp); try omega) _ | refine below_drewN ?_ _ | refine Below.drew ?_ | (with_reducible refine Below.trans ?_ (Below.mono (by assumption) (by (try simp); try omega))))))
  go_enter Tryz.func55, Tryz.ntmps55
  go_wp2_with fail
  generalize (w.alloc (.cells #[.int .i64 0, .int .i64 0] 23)) = v0 at *
  generalize hn : w.heap.size = n at *
  have c6 : v0.cell? ⟨g6, 0, none⟩ = some (.pointer (some ⟨c, 0, none⟩)) := h6.cell 0 _ rfl
  have cA0 : v0.cell? ⟨gA, 0, none⟩ = some (.int .i64 a0) := hA.cell 0 _ rfl
  have cA1 : v0.cell? ⟨gA, 1, none⟩ = some (.int .i64 a1) := hA.cell 1 _ rfl
  have cA2 : v0.cell? ⟨gA, 2, none⟩ = some (.int .i64 a2) := hA.cell 2 _ rfl
  have cA3 : v0.cell? ⟨gA, 3, none⟩ = some (.int .i64 a3) := hA.cell 3 _ rfl
  have cA4 : v0.cell? ⟨gA, 4, none⟩ = some (.int .i64 a4) := hA.cell 4 _ rfl
  have cA5 : v0.cell? ⟨gA, 5, none⟩ = some (.int .i64 a5) := hA.cell 5 _ rfl
  have cB0 : v0.cell? ⟨gB, 0, none⟩ = some (.int .i64 d0) := hB.cell 0 _ rfl
  have cB1 : v0.cell? ⟨gB, 1, none⟩ = some (.int .i64 d1) := hB.cell 1 _ rfl
  have cB2 : v0.cell? ⟨gB, 2, none⟩ = some (.int .i64 d2) := hB.cell 2 _ rfl
  have cB3 : v0.cell? ⟨gB, 3, none⟩ = some (.int .i64 d3) := hB.cell 3 _ rfl
  have cB4 : v0.cell? ⟨gB, 4, none⟩ = some (.int .i64 d4) := hB.cell 4 _ rfl
  have cB5 : v0.cell? ⟨gB, 5, none⟩ = some (.int .i64 d5) := hB.cell 5 _ rfl
  clear h6 hA hB
  go_region_held3 (fun w' => w'.cell? ⟨g6, 0, none⟩ = some (.pointer (some ⟨c, 0, none⟩)) ∧ w'.cell? ⟨gA, 0, none⟩ = some (.int .i64 a0) ∧ w'.cell? ⟨gA, 1, none⟩ = some (.int .i64 a1) ∧ w'.cell? ⟨gA, 2, none⟩ = some (.int .i64 a2) ∧ w'.cell? ⟨gA, 3, none⟩ = some (.int .i64 a3) ∧ w'.cell? ⟨gA, 4, none⟩ = some (.int .i64 a4) ∧ w'.cell? ⟨gA, 5, none⟩ = some (.int .i64 a5) ∧ w'.cell? ⟨gB, 0, none⟩ = some (.int .i64 d0) ∧ w'.cell? ⟨gB, 1, none⟩ = some (.int .i64 d1) ∧ w'.cell? ⟨gB, 2, none⟩ = some (.int .i64 d2) ∧ w'.cell? ⟨gB, 3, none⟩ = some (.int .i64 d3) ∧ w'.cell? ⟨gB, 4, none⟩ = some (.int .i64 d4) ∧ w'.cell? ⟨gB, 5, none⟩ = some (.int .i64 d5))
    (first | with_reducible exact ⟨c6, cA0, cA1, cA2, cA3, cA4, cA5, cB0, cB1, cB2, cB3, cB4, cB5⟩ | with_reducible exact ⟨cellDrewI c6, cellDrewI cA0, cellDrewI cA1, cellDrewI cA2, cellDrewI cA3, cellDrewI cA4, cellDrewI cA5, cellDrewI cB0, cellDrewI cB1, cellDrewI cB2, cellDrewI cB3, cellDrewI cB4, cellDrewI cB5⟩ | with_reducible exact ⟨cellFar2 c6 (by omega) _ _, cellFar2 cA0 (by omega) _ _, cellFar2 cA1 (by omega) _ _, cellFar2 cA2 (by omega) _ _, cellFar2 cA3 (by omega) _ _, cellFar2 cA4 (by omega) _ _, cellFar2 cA5 (by omega) _ _, cellFar2 cB0 (by omega) _ _, cellFar2 cB1 (by omega) _ _, cellFar2 cB2 (by omega) _ _, cellFar2 cB3 (by omega) _ _, cellFar2 cB4 (by omega) _ _, cellFar2 cB5 (by omega) _ _⟩)
    (first | (go_at_call 49; (with_reducible refine (h0 _ _ (by first | with_reducible exact hC | with_reducible exact clDrew hC)).mono ?_); rintro r uz ⟨rfl, hC3, hk⟩; (with_reducible (first | (replace hk := keDrew hk) | skip)); replace b0 := b0.ke (by omega) hk; have z0 := b0.f 0; have z1 := b0.f 1; have y0 := b0.cell 0 _ rfl; have y1 := b0.cell 1 _ rfl; have lz := b0.lt; replace c6 := hk.cellK c6 (show g6 ≠ c by omega); replace cA0 := hk.cellK cA0 (show gA ≠ c by omega); replace cA1 := hk.cellK cA1 (show gA ≠ c by omega); replace cA2 := hk.cellK cA2 (show gA ≠ c by omega); replace cA3 := hk.cellK cA3 (show gA ≠ c by omega); replace cA4 := hk.cellK cA4 (show gA ≠ c by omega); replace cA5 := hk.cellK cA5 (show gA ≠ c by omega); replace cB0 := hk.cellK cB0 (show gB ≠ c by omega); replace cB1 := hk.cellK cB1 (show gB ≠ c by omega); replace cB2 := hk.cellK cB2 (show gB ≠ c by omega); replace cB3 := hk.cellK cB3 (show gB ≠ c by omega); replace cB4 := hk.cellK cB4 (show gB ≠ c by omega); replace cB5 := hk.cellK cB5 (show gB ≠ c by omega); replace hk0 := hk0.trans hk; clear hk hC; have hC := hC3; clear hC3) | (go_at_call 49; (with_reducible refine (h1 _ _ (by first | with_reducible exact hC | with_reducible exact clDrew hC)).mono ?_); rintro r uz ⟨rfl, hC3, hk⟩; (with_reducible (first | (replace hk := keDrew hk) | skip)); replace b0 := b0.ke (by omega) hk; have z0 := b0.f 0; have z1 := b0.f 1; have y0 := b0.cell 0 _ rfl; have y1 := b0.cell 1 _ rfl; have lz := b0.lt; replace c6 := hk.cellK c6 (show g6 ≠ c by omega); replace cA0 := hk.cellK cA0 (show gA ≠ c by omega); replace cA1 := hk.cellK cA1 (show gA ≠ c by omega); replace cA2 := hk.cellK cA2 (show gA ≠ c by omega); replace cA3 := hk.cellK cA3 (show gA ≠ c by omega); replace cA4 := hk.cellK cA4 (show gA ≠ c by omega); replace cA5 := hk.cellK cA5 (show gA ≠ c by omega); replace cB0 := hk.cellK cB0 (show gB ≠ c by omega); replace cB1 := hk.cellK cB1 (show gB ≠ c by omega); replace cB2 := hk.cellK cB2 (show gB ≠ c by omega); replace cB3 := hk.cellK cB3 (show gB ≠ c by omega); replace cB4 := hk.cellK cB4 (show gB ≠ c by omega); replace cB5 := hk.cellK cB5 (show gB ≠ c by omega); replace hk0 := hk0.trans hk; clear hk hC; have hC := hC3; clear hC3) | (go_at_call 42; (with_reducible refine (h2 _ _ (by first | with_reducible exact hC | with_reducible exact clDrew hC)).mono ?_); rintro r uz ⟨rfl, hC3, hk⟩; (with_reducible (first | (replace hk := keDrew hk) | skip)); replace b0 := b0.ke (by omega) hk; have z0 := b0.f 0; have z1 := b0.f 1; have y0 := b0.cell 0 _ rfl; have y1 := b0.cell 1 _ rfl; have lz := b0.lt; replace c6 := hk.cellK c6 (show g6 ≠ c by omega); replace cA0 := hk.cellK cA0 (show gA ≠ c by omega); replace cA1 := hk.cellK cA1 (show gA ≠ c by omega); replace cA2 := hk.cellK cA2 (show gA ≠ c by omega); replace cA3 := hk.cellK cA3 (show gA ≠ c by omega); replace cA4 := hk.cellK cA4 (show gA ≠ c by omega); replace cA5 := hk.cellK cA5 (show gA ≠ c by omega); replace cB0 := hk.cellK cB0 (show gB ≠ c by omega); replace cB1 := hk.cellK cB1 (show gB ≠ c by omega); replace cB2 := hk.cellK cB2 (show gB ≠ c by omega); replace cB3 := hk.cellK cB3 (show gB ≠ c by omega); replace cB4 := hk.cellK cB4 (show gB ≠ c by omega); replace cB5 := hk.cellK cB5 (show gB ≠ c by omega); replace hk0 := hk0.trans hk; clear hk hC; have hC := hC3; clear hC3))
  have y0 := b0.cell 0 _ rfl
  have y1 := b0.cell 1 _ rfl
  have z0 := b0.f 0
  have z1 := b0.f 1
  have lz := b0.lt
  go_wp2
  refine bodyPost_ret (v := .agg #[.int .i64 m2.1, .int .i64 m2.2.1]) (by simp [results, Tryz.results55, go_sem, y0, y1, z0, z1, lz]) rfl ⟨rfl, ?_, ?_⟩
  · rw [← fo_assoc, ← fo_assoc]; exact Bn.far2 hC (by omega) _ _
  · exact hk0.put2 (by omega) _ _
def vCrossQ (a0 a1 a2 a3 a4 a5 d0 d1 d2 d3 d4 d5 : Int) : VR := ⟨(vCompR a2 a3 d4 d5 a4 a5 d2 d3).1, (vCompR a2 a3 d4 d5 a4 a5 d2 d3).2.1, (vCompR a4 a5 d0 d1 a0 a1 d4 d5).1, (vCompR a4 a5 d0 d1 a0 a1 d4 d5).2.1, (vCompR a0 a1 d2 d3 a2 a3 d0 d1).1, (vCompR a0 a1 d2 d3 a2 a3 d0 d1).2.1, fo (vCompR a2 a3 d4 d5 a4 a5 d2 d3).2.2 (fo (vCompR a4 a5 d0 d1 a0 a1 d4 d5).2.2 (vCompR a0 a1 d2 d3 a2 a3 d0 d1).2.2)⟩
def vCrossR (a0 a1 a2 a3 a4 a5 d0 d1 d2 d3 d4 d5 : Int) : VR := vTold (fo (fo (ckV a0 a1 a2 a3 a4 a5) (ckV d0 d1 d2 d3 d4 d5)) (vCrossQ a0 a1 a2 a3 a4 a5 d0 d1 d2 d3 d4 d5).e) (vCrossQ a0 a1 a2 a3 a4 a5 d0 d1 d2 d3 d4 d5)
set_option maxRecDepth 100000 in
set_option maxHeartbeats 8000000 in
theorem pCross_any (a0 a1 a2 a3 a4 a5 d0 d1 d2 d3 d4 d5 : Int) (w : World) :
    Calls Tryz.prog 21 #[.agg #[.int .i64 a0, .int .i64 a1, .int .i64 a2, .int .i64 a3, .int .i64 a4, .int .i64 a5], .agg #[.int .i64 d0, .int .i64 d1, .int .i64 d2, .int .i64 d3, .int .i64 d4, .int .i64 d5]] w fun r w' => r = .returned (.tuple #[.agg #[.int .i64 (vCrossR a0 a1 a2 a3 a4 a5 d0 d1 d2 d3 d4 d5).x0, .int .i64 (vCrossR a0 a1 a2 a3 a4 a5 d0 d1 d2 d3 d4 d5).x1, .int .i64 (vCrossR a0 a1 a2 a3 a4 a5 d0 d1 d2 d3 d4 d5).y0, .int .i64 (vCrossR a0 a1 a2 a3 a4 a5 d0 d1 d2 d3 d4 d5).y1, .int .i64 (vCrossR a0 a1 a2 a3 a4 a5 d0 d1 d2 d3 d4 d5).z0, .int .i64 (vCrossR a0 a1 a2 a3 a4 a5 d0 d1 d2 d3 d4 d5).z1], .int .i64 (vCrossR a0 a1 a2 a3 a4 a5 d0 d1 d2 d3 d4 d5).e]) ∧ Below w.heap.size w w' := by
  simp only [vCrossR]
  have h0 := fun g6 gA gB c e w x0 x1 x2 x3 x4 x5 x6 => vComp0_any g6 gA gB c e a0 a1 a2 a3 a4 a5 d0 d1 d2 d3 d4 d5 w x0 x1 x2 x3 x4 x5 x6
  have h1 := fun g6 gA gB c e w x0 x1 x2 x3 x4 x5 x6 => vComp1_any g6 gA gB c e a0 a1 a2 a3 a4 a5 d0 d1 d2 d3 d4 d5 w x0 x1 x2 x3 x4 x5 x6
  have h2 := fun g6 gA gB c e w x0 x1 x2 x3 x4 x5 x6 => vComp2_any g6 gA gB c e a0 a1 a2 a3 a4 a5 d0 d1 d2 d3 d4 d5 w x0 x1 x2 x3 x4 x5 x6
  have hQ : vCrossQ a0 a1 a2 a3 a4 a5 d0 d1 d2 d3 d4 d5 = ⟨(vCompR a2 a3 d4 d5 a4 a5 d2 d3).1, (vCompR a2 a3 d4 d5 a4 a5 d2 d3).2.1, (vCompR a4 a5 d0 d1 a0 a1 d4 d5).1, (vCompR a4 a5 d0 d1 a0 a1 d4 d5).2.1, (vCompR a0 a1 d2 d3 a2 a3 d0 d1).1, (vCompR a0 a1 d2 d3 a2 a3 d0 d1).2.1, fo (vCompR a2 a3 d4 d5 a4 a5 d2 d3).2.2 (fo (vCompR a4 a5 d0 d1 a0 a1 d4 d5).2.2 (vCompR a0 a1 d2 d3 a2 a3 d0 d1).2.2)⟩ := rfl
  rw [hQ]
  clear hQ
  generalize vCompR a2 a3 d4 d5 a4 a5 d2 d3 = m0 at *
  generalize vCompR a4 a5 d0 d1 a0 a1 d4 d5 = m1 at *
  generalize vCompR a0 a1 d2 d3 a2 a3 d0 d1 = m2 at *
  have hcal := fun q w hh => calc2_any q 25 a0 a1 a2 a3 a4 a5 d0 d1 d2 d3 d4 d5 w hh
  generalize fo (ckV a0 a1 a2 a3 a4 a5) (ckV d0 d1 d2 d3 d4 d5) = k at *
  have hch := fun c w hh => checkedV_any c (fo k (fo m0.2.2 (fo m1.2.2 m2.2.2))) ⟨m0.1, m0.2.1, m1.1, m1.2.1, m2.1, m2.2.1, fo m0.2.2 (fo m1.2.2 m2.2.2)⟩ w hh
  generalize vTold (fo k (fo m0.2.2 (fo m1.2.2 m2.2.2))) ⟨m0.1, m0.2.1, m1.1, m1.2.1, m2.1, m2.2.1, fo m0.2.2 (fo m1.2.2 m2.2.2)⟩ = Y at *
  have b0 := (((Bn.new w #[.int .i64 a0, .int .i64 a1, .int .i64 a2, .int .i64 a3, .int .i64 a4, .int .i64 a5] 25).alloc (.cells #[.int .i64 d0, .int .i64 d1, .int .i64 d2, .int .i64 d3, .int .i64 d4, .int .i64 d5] 25)).alloc (.cells #[.int .i64 0, .int .i64 0, .int .i64 0, .int .i64 0, .int .i64 0, .int .i64 0] 25))
  have b1 := ((Bn.new (w.alloc (.cells #[.int .i64 a0, .int .i64 a1, .int .i64 a2, .int .i64 a3, .int .i64 a4, .int .i64 a5] 25)) #[.int .i64 d0, .int .i64 d1, .int .i64 d2, .int .i64 d3, .int .i64 d4, .int .i64 d5] 25).alloc (.cells #[.int .i64 0, .int .i64 0, .int .i64 0, .int .i64 0, .int .i64 0, .int .i64 0] 25))
  rw [show (w.alloc (.cells #[.int .i64 a0, .int .i64 a1, .int .i64 a2, .int .i64 a3, .int .i64 a4, .int .i64 a5] 25)).heap.size = w.heap.size + 1 by simp] at b1
  have b2 := (Bn.new ((w.alloc (.cells #[.int .i64 a0, .int .i64 a1, .int .i64 a2, .int .i64 a3, .int .i64 a4, .int .i64 a5] 25)).alloc (.cells #[.int .i64 d0, .int .i64 d1, .int .i64 d2, .int .i64 d3, .int .i64 d4, .int .i64 d5] 25)) #[.int .i64 0, .int .i64 0, .int .i64 0, .int .i64 0, .int .i64 0, .int .i64 0] 25)
  rw [show ((w.alloc (.cells #[.int .i64 a0, .int .i64 a1, .int .i64 a2, .int .i64 a3, .int .i64 a4, .int .i64 a5] 25)).alloc (.cells #[.int .i64 d0, .int .i64 d1, .int .i64 d2, .int .i64 d3, .int .i64 d4, .int .i64 d5] 25)).heap.size = w.heap.size + 2 by simp] at b2
  have hB : Below w.heap.size w (((w.alloc (.cells #[.int .i64 a0, .int .i64 a1, .int .i64 a2, .int .i64 a3, .int .i64 a4, .int .i64 a5] 25)).alloc (.cells #[.int .i64 d0, .int .i64 d1, .int .i64 d2, .int .i64 d3, .int .i64 d4, .int .i64 d5] 25)).alloc (.cells #[.int .i64 0, .int .i64 0, .int .i64 0, .int .i64 0, .int .i64 0, .int .i64 0] 25)) := by (repeat (first | with_reducible exact Below.refl _ _ | with_reducible assumption | refine Below.alloc ?_ (by (try simp); try omega) _ | refine Below.setCell ?_ (by (try simp); try omega) _ | refine below_drewN ?_ _ | refine Below.drew ?_ | (with_reducible refine Below.trans ?_ (Below.mono (by assumption) (by (try simp); try omega)))))
  go_enter Tryz.func21, Tryz.ntmps21
  have hq := Bn.new (((w.alloc (.cells #[.int .i64 a0, .int .i64 a1, .int .i64 a2, .int .i64 a3, .int .i64 a4, .int .i64 a5] 25)).alloc (.cells #[.int .i64 d0, .int .i64 d1, .int .i64 d2, .int .i64 d3, .int .i64 d4, .int .i64 d5] 25)).alloc (.cells #[.int .i64 0, .int .i64 0, .int .i64 0, .int .i64 0, .int .i64 0, .int .i64 0] 25)) #[.int .i64 a0, .int .i64 a1, .int .i64 a2, .int .i64 a3, .int .i64 a4, .int .i64 a5, .int .i64 d0, .int .i64 d1, .int .i64 d2, .int .i64 d3, .int .i64 d4, .int .i64 d5] 25
  rw [show (((w.alloc (.cells #[.int .i64 a0, .int .i64 a1, .int .i64 a2, .int .i64 a3, .int .i64 a4, .int .i64 a5] 25)).alloc (.cells #[.int .i64 d0, .int .i64 d1, .int .i64 d2, .int .i64 d3, .int .i64 d4, .int .i64 d5] 25)).alloc (.cells #[.int .i64 0, .int .i64 0, .int .i64 0, .int .i64 0, .int .i64 0, .int .i64 0] 25)).heap.size = w.heap.size + 3 by simp] at hq
  go_wp2_with fail
  go_at_call 35
  refine (hcal _ _ hq).mono ?_
  rintro r u1 ⟨c, rfl, hC, hc, hb⟩
  replace b0 := (b0.alloc (.cells #[.int .i64 a0, .int .i64 a1, .int .i64 a2, .int .i64 a3, .int .i64 a4, .int .i64 a5, .int .i64 d0, .int .i64 d1, .int .i64 d2, .int .i64 d3, .int .i64 d4, .int .i64 d5] 25)).keep hb
  replace b1 := (b1.alloc (.cells #[.int .i64 a0, .int .i64 a1, .int .i64 a2, .int .i64 a3, .int .i64 a4, .int .i64 a5, .int .i64 d0, .int .i64 d1, .int .i64 d2, .int .i64 d3, .int .i64 d4, .int .i64 d5] 25)).keep hb
  replace b2 := (b2.alloc (.cells #[.int .i64 a0, .int .i64 a1, .int .i64 a2, .int .i64 a3, .int .i64 a4, .int .i64 a5, .int .i64 d0, .int .i64 d1, .int .i64 d2, .int .i64 d3, .int .i64 d4, .int .i64 d5] 25)).keep hb
  replace hB := (hB.alloc hB.size (.cells #[.int .i64 a0, .int .i64 a1, .int .i64 a2, .int .i64 a3, .int .i64 a4, .int .i64 a5, .int .i64 d0, .int .i64 d1, .int .i64 d2, .int .i64 d3, .int .i64 d4, .int .i64 d5] 25)).trans (hb.mono (hB.alloc hB.size (.cells #[.int .i64 a0, .int .i64 a1, .int .i64 a2, .int .i64 a3, .int .i64 a4, .int .i64 a5, .int .i64 d0, .int .i64 d1, .int .i64 d2, .int .i64 d3, .int .i64 d4, .int .i64 d5] 25)).size)
  have hc2 : w.heap.size + 3 < c := by simp at hc; omega
  clear hb hq hc
  have lb2 := b2.lt
  have lcc := hC.lt
  have b6 := Bn.new u1 #[.pointer (some ⟨c, 0, none⟩)] 59
  replace b0 := b0.alloc (.cells #[.pointer (some ⟨c, 0, none⟩)] 59)
  replace b1 := b1.alloc (.cells #[.pointer (some ⟨c, 0, none⟩)] 59)
  replace b2 := b2.alloc (.cells #[.pointer (some ⟨c, 0, none⟩)] 59)
  replace hC := hC.alloc (.cells #[.pointer (some ⟨c, 0, none⟩)] 59)
  replace hB := hB.alloc hB.size (.cells #[.pointer (some ⟨c, 0, none⟩)] 59)
  go_wp2_with fail
  generalize (u1.alloc (.cells #[.pointer (some ⟨c, 0, none⟩)] 59)) = v0 at *
  generalize hg6 : u1.heap.size = g6 at *
  generalize hn : w.heap.size = n at *
  have c6 : v0.cell? ⟨g6, 0, none⟩ = some (.pointer (some ⟨c, 0, none⟩)) := b6.cell 0 _ rfl
  go_region_held3 (fun w' => w'.cell? ⟨g6, 0, none⟩ = some (.pointer (some ⟨c, 0, none⟩)))
    (first | with_reducible exact c6 | with_reducible exact cellDrewI c6 | with_reducible exact cellFar6 c6 (by omega) _ _ _ _ _ _)
    (first | (go_at_call 55; (with_reducible refine (h0 g6 n (n + 1) c _ _ (by first | with_reducible exact hC | with_reducible exact clDrew hC) (by first | with_reducible exact b6 | with_reducible exact b6.drewI) (by first | with_reducible exact b0 | with_reducible exact b0.drewI) (by first | with_reducible exact b1 | with_reducible exact b1.drewI) (by omega) (by omega) (by omega)).mono ?_); rintro r uz ⟨rfl, hC3, hk⟩; (with_reducible (first | (replace hk := keDrew hk) | skip)); replace b2 := b2.ke (by omega) hk; have z0 := b2.f 0; have z1 := b2.f 1; have z2 := b2.f 2; have z3 := b2.f 3; have z4 := b2.f 4; have z5 := b2.f 5; have y0 := b2.cell 0 _ rfl; have y1 := b2.cell 1 _ rfl; have y2 := b2.cell 2 _ rfl; have y3 := b2.cell 3 _ rfl; have y4 := b2.cell 4 _ rfl; have y5 := b2.cell 5 _ rfl; have lz := b2.lt; replace c6 := hk.cellK c6 (show g6 ≠ c by omega); replace b0 := b0.ke (by omega) hk; replace b1 := b1.ke (by omega) hk; replace b6 := b6.ke (by omega) hk; replace hB := hk.below hB (by omega) (by have := hB.size; omega); clear hk hC; have hC := hC3; clear hC3) | (go_at_call 55; (with_reducible refine (h1 g6 n (n + 1) c _ _ (by first | with_reducible exact hC | with_reducible exact clDrew hC) (by first | with_reducible exact b6 | with_reducible exact b6.drewI) (by first | with_reducible exact b0 | with_reducible exact b0.drewI) (by first | with_reducible exact b1 | with_reducible exact b1.drewI) (by omega) (by omega) (by omega)).mono ?_); rintro r uz ⟨rfl, hC3, hk⟩; (with_reducible (first | (replace hk := keDrew hk) | skip)); replace b2 := b2.ke (by omega) hk; have z0 := b2.f 0; have z1 := b2.f 1; have z2 := b2.f 2; have z3 := b2.f 3; have z4 := b2.f 4; have z5 := b2.f 5; have y0 := b2.cell 0 _ rfl; have y1 := b2.cell 1 _ rfl; have y2 := b2.cell 2 _ rfl; have y3 := b2.cell 3 _ rfl; have y4 := b2.cell 4 _ rfl; have y5 := b2.cell 5 _ rfl; have lz := b2.lt; replace c6 := hk.cellK c6 (show g6 ≠ c by omega); replace b0 := b0.ke (by omega) hk; replace b1 := b1.ke (by omega) hk; replace b6 := b6.ke (by omega) hk; replace hB := hk.below hB (by omega) (by have := hB.size; omega); clear hk hC; have hC := hC3; clear hC3) | (go_at_call 55; (with_reducible refine (h2 g6 n (n + 1) c _ _ (by first | with_reducible exact hC | with_reducible exact clDrew hC) (by first | with_reducible exact b6 | with_reducible exact b6.drewI) (by first | with_reducible exact b0 | with_reducible exact b0.drewI) (by first | with_reducible exact b1 | with_reducible exact b1.drewI) (by omega) (by omega) (by omega)).mono ?_); rintro r uz ⟨rfl, hC3, hk⟩; (with_reducible (first | (replace hk := keDrew hk) | skip)); replace b2 := b2.ke (by omega) hk; have z0 := b2.f 0; have z1 := b2.f 1; have z2 := b2.f 2; have z3 := b2.f 3; have z4 := b2.f 4; have z5 := b2.f 5; have y0 := b2.cell 0 _ rfl; have y1 := b2.cell 1 _ rfl; have y2 := b2.cell 2 _ rfl; have y3 := b2.cell 3 _ rfl; have y4 := b2.cell 4 _ rfl; have y5 := b2.cell 5 _ rfl; have lz := b2.lt; replace c6 := hk.cellK c6 (show g6 ≠ c by omega); replace b0 := b0.ke (by omega) hk; replace b1 := b1.ke (by omega) hk; replace b6 := b6.ke (by omega) hk; replace hB := hk.below hB (by omega) (by have := hB.size; omega); clear hk hC; have hC := hC3; clear hC3) | (go_at_call 36; (refine (hch c _ (by rw [fo_assoc, fo_assoc] at hC; exact hC)).mono ?_); rintro r uz ⟨rfl, hb⟩; replace c6 := bkeep hb c6; replace b2 := b2.keep hb; have z0 := b2.f 0; have z1 := b2.f 1; have z2 := b2.f 2; have z3 := b2.f 3; have z4 := b2.f 4; have z5 := b2.f 5; have y0 := b2.cell 0 _ rfl; have y1 := b2.cell 1 _ rfl; have y2 := b2.cell 2 _ rfl; have y3 := b2.cell 3 _ rfl; have y4 := b2.cell 4 _ rfl; have y5 := b2.cell 5 _ rfl; have lz := b2.lt; replace hB := hB.trans (hb.mono (by have := hB.size; omega)); clear hb))
  subst hn
  have y0 := b2.cell 0 _ rfl
  have y1 := b2.cell 1 _ rfl
  have y2 := b2.cell 2 _ rfl
  have y3 := b2.cell 3 _ rfl
  have y4 := b2.cell 4 _ rfl
  have y5 := b2.cell 5 _ rfl
  have z0 := b2.f 0
  have z1 := b2.f 1
  have z2 := b2.f 2
  have z3 := b2.f 3
  have z4 := b2.f 4
  have z5 := b2.f 5
  have lz := b2.lt
  go_wp2
  refine bodyPost_ret (v := .tuple #[.agg #[.int .i64 (Y).x0, .int .i64 (Y).x1, .int .i64 (Y).y0, .int .i64 (Y).y1, .int .i64 (Y).z0, .int .i64 (Y).z1], .int .i64 (Y).e]) (by simp [results, Tryz.results21, go_sem, y0, z0, y1, z1, y2, z2, y3, z3, y4, z4, y5, z5, lz]) rfl ⟨rfl, below6 hB (by omega) _ _ _ _ _ _⟩
def vUnitQ (a0 a1 a2 a3 a4 a5 : Int) (s : Int × Int × Int) : VR := vPairR sDivR a0 a1 a2 a3 a4 a5 s.1 s.2.1 s.1 s.2.1 s.1 s.2.1
def vUnitR (a0 a1 a2 a3 a4 a5 : Int) : VR := vTold (fo (fo (ckV a0 a1 a2 a3 a4 a5) (vNormR a0 a1 a2 a3 a4 a5).2.2) (vUnitQ a0 a1 a2 a3 a4 a5 (vNormR a0 a1 a2 a3 a4 a5)).e) (vUnitQ a0 a1 a2 a3 a4 a5 (vNormR a0 a1 a2 a3 a4 a5))
set_option maxRecDepth 100000 in
set_option maxHeartbeats 8000000 in
theorem pUnit_any (a0 a1 a2 a3 a4 a5 : Int) (w : World) :
    Calls Tryz.prog 25 #[.agg #[.int .i64 a0, .int .i64 a1, .int .i64 a2, .int .i64 a3, .int .i64 a4, .int .i64 a5]] w fun r w' => r = .returned (.tuple #[.agg #[.int .i64 (vUnitR a0 a1 a2 a3 a4 a5).x0, .int .i64 (vUnitR a0 a1 a2 a3 a4 a5).x1, .int .i64 (vUnitR a0 a1 a2 a3 a4 a5).y0, .int .i64 (vUnitR a0 a1 a2 a3 a4 a5).y1, .int .i64 (vUnitR a0 a1 a2 a3 a4 a5).z0, .int .i64 (vUnitR a0 a1 a2 a3 a4 a5).z1], .int .i64 (vUnitR a0 a1 a2 a3 a4 a5).e]) ∧ Below w.heap.size w w' := by
  simp only [vUnitR]
  have hp := fun c e w h => vNorm_any c e a0 a1 a2 a3 a4 a5 w h
  generalize vNormR a0 a1 a2 a3 a4 a5 = s at *
  have ht := fun w => threeOf_any s.1 s.2.1 w
  have hd := fun c e w h => pairs_div c e a0 a1 a2 a3 a4 a5 s.1 s.2.1 s.1 s.2.1 s.1 s.2.1 w h
  rw [show vPairR sDivR a0 a1 a2 a3 a4 a5 s.1 s.2.1 s.1 s.2.1 s.1 s.2.1 = vUnitQ a0 a1 a2 a3 a4 a5 s from rfl] at hd
  generalize vUnitQ a0 a1 a2 a3 a4 a5 s = q at *
  have hcal := fun q w hh => calc1_any q 25 a0 a1 a2 a3 a4 a5 w hh
  generalize ckV a0 a1 a2 a3 a4 a5 = k at *
  have hch := fun c w hh => checkedV_any c (fo (fo k s.2.2) q.e) q w hh
  generalize vTold (fo (fo k s.2.2) q.e) q = Y at *
  have b0 := ((Bn.new w #[.int .i64 a0, .int .i64 a1, .int .i64 a2, .int .i64 a3, .int .i64 a4, .int .i64 a5] 25).alloc (.cells #[.int .i64 0, .int .i64 0, .int .i64 0, .int .i64 0, .int .i64 0, .int .i64 0] 25))
  have b1 := (Bn.new (w.alloc (.cells #[.int .i64 a0, .int .i64 a1, .int .i64 a2, .int .i64 a3, .int .i64 a4, .int .i64 a5] 25)) #[.int .i64 0, .int .i64 0, .int .i64 0, .int .i64 0, .int .i64 0, .int .i64 0] 25)
  rw [show (w.alloc (.cells #[.int .i64 a0, .int .i64 a1, .int .i64 a2, .int .i64 a3, .int .i64 a4, .int .i64 a5] 25)).heap.size = w.heap.size + 1 by simp] at b1
  have hB : Below w.heap.size w ((w.alloc (.cells #[.int .i64 a0, .int .i64 a1, .int .i64 a2, .int .i64 a3, .int .i64 a4, .int .i64 a5] 25)).alloc (.cells #[.int .i64 0, .int .i64 0, .int .i64 0, .int .i64 0, .int .i64 0, .int .i64 0] 25)) := by (repeat (first | with_reducible exact Below.refl _ _ | with_reducible assumption | refine Below.alloc ?_ (by (try simp); try omega) _ | refine Below.setCell ?_ (by (try simp); try omega) _ | refine below_drewN ?_ _ | refine Below.drew ?_ | (with_reducible refine Below.trans ?_ (Below.mono (by assumption) (by (try simp); try omega)))))
  go_enter Tryz.func25, Tryz.ntmps25
  have hq := Bn.new ((w.alloc (.cells #[.int .i64 a0, .int .i64 a1, .int .i64 a2, .int .i64 a3, .int .i64 a4, .int .i64 a5] 25)).alloc (.cells #[.int .i64 0, .int .i64 0, .int .i64 0, .int .i64 0, .int .i64 0, .int .i64 0] 25)) #[.int .i64 a0, .int .i64 a1, .int .i64 a2, .int .i64 a3, .int .i64 a4, .int .i64 a5] 25
  rw [show ((w.alloc (.cells #[.int .i64 a0, .int .i64 a1, .int .i64 a2, .int .i64 a3, .int .i64 a4, .int .i64 a5] 25)).alloc (.cells #[.int .i64 0, .int .i64 0, .int .i64 0, .int .i64 0, .int .i64 0, .int .i64 0] 25)).heap.size = w.heap.size + 2 by simp] at hq
  go_wp2_with fail
  go_at_call 35
  refine (hcal _ _ hq).mono ?_
  rintro r u1 ⟨c, rfl, hC, hc, hb⟩
  replace b0 := (b0.alloc (.cells #[.int .i64 a0, .int .i64 a1, .int .i64 a2, .int .i64 a3, .int .i64 a4, .int .i64 a5] 25)).keep hb
  replace b1 := (b1.alloc (.cells #[.int .i64 a0, .int .i64 a1, .int .i64 a2, .int .i64 a3, .int .i64 a4, .int .i64 a5] 25)).keep hb
  replace hB := (hB.alloc hB.size (.cells #[.int .i64 a0, .int .i64 a1, .int .i64 a2, .int .i64 a3, .int .i64 a4, .int .i64 a5] 25)).trans (hb.mono (hB.alloc hB.size (.cells #[.int .i64 a0, .int .i64 a1, .int .i64 a2, .int .i64 a3, .int .i64 a4, .int .i64 a5] 25)).size)
  have hc2 : w.heap.size + 2 < c := by simp at hc; omega
  clear hb hq hc
  have lb1 := b1.lt
  go_wp2_with fail
  generalize hn : w.heap.size = n at *
  have cA0 : u1.cell? ⟨n, 0, none⟩ = some (.int .i64 a0) := b0.cell 0 _ rfl
  have cA1 : u1.cell? ⟨n, 1, none⟩ = some (.int .i64 a1) := b0.cell 1 _ rfl
  have cA2 : u1.cell? ⟨n, 2, none⟩ = some (.int .i64 a2) := b0.cell 2 _ rfl
  have cA3 : u1.cell? ⟨n, 3, none⟩ = some (.int .i64 a3) := b0.cell 3 _ rfl
  have cA4 : u1.cell? ⟨n, 4, none⟩ = some (.int .i64 a4) := b0.cell 4 _ rfl
  have cA5 : u1.cell? ⟨n, 5, none⟩ = some (.int .i64 a5) := b0.cell 5 _ rfl
  clear b0
  go_region_held3 (fun w' => w'.cell? ⟨n, 0, none⟩ = some (.int .i64 a0) ∧ w'.cell? ⟨n, 1, none⟩ = some (.int .i64 a1) ∧ w'.cell? ⟨n, 2, none⟩ = some (.int .i64 a2) ∧ w'.cell? ⟨n, 3, none⟩ = some (.int .i64 a3) ∧ w'.cell? ⟨n, 4, none⟩ = some (.int .i64 a4) ∧ w'.cell? ⟨n, 5, none⟩ = some (.int .i64 a5))
    (first | with_reducible exact ⟨cA0, cA1, cA2, cA3, cA4, cA5⟩ | with_reducible exact ⟨cellDrewI cA0, cellDrewI cA1, cellDrewI cA2, cellDrewI cA3, cellDrewI cA4, cellDrewI cA5⟩ | with_reducible exact ⟨cellFar6 cA0 (by omega) _ _ _ _ _ _, cellFar6 cA1 (by omega) _ _ _ _ _ _, cellFar6 cA2 (by omega) _ _ _ _ _ _, cellFar6 cA3 (by omega) _ _ _ _ _ _, cellFar6 cA4 (by omega) _ _ _ _ _ _, cellFar6 cA5 (by omega) _ _ _ _ _ _⟩)
    (first | (go_at_call 57; (with_reducible refine (hp c _ _ (by first | with_reducible exact hC | with_reducible exact clDrew hC)).mono ?_); rintro r uz ⟨rfl, hC3, hk⟩; (with_reducible (first | (replace hk := keDrew hk) | skip)); replace b1 := b1.ke (by omega) hk; have z0 := b1.f 0; have z1 := b1.f 1; have z2 := b1.f 2; have z3 := b1.f 3; have z4 := b1.f 4; have z5 := b1.f 5; have y0 := b1.cell 0 _ rfl; have y1 := b1.cell 1 _ rfl; have y2 := b1.cell 2 _ rfl; have y3 := b1.cell 3 _ rfl; have y4 := b1.cell 4 _ rfl; have y5 := b1.cell 5 _ rfl; have lz := b1.lt; replace cA0 := hk.cellK cA0 (show n ≠ c by omega); replace cA1 := hk.cellK cA1 (show n ≠ c by omega); replace cA2 := hk.cellK cA2 (show n ≠ c by omega); replace cA3 := hk.cellK cA3 (show n ≠ c by omega); replace cA4 := hk.cellK cA4 (show n ≠ c by omega); replace cA5 := hk.cellK cA5 (show n ≠ c by omega); replace hB := hk.below hB (by omega) (by have := hB.size; omega); clear hk hC; have hC := hC3; clear hC3) | (go_at_call 48; (with_reducible refine (ht _).mono ?_); rintro r uz ⟨rfl, hb⟩; replace cA0 := bkeep hb cA0; replace cA1 := bkeep hb cA1; replace cA2 := bkeep hb cA2; replace cA3 := bkeep hb cA3; replace cA4 := bkeep hb cA4; replace cA5 := bkeep hb cA5; replace b1 := b1.keep hb; replace hC := hC.keep hb; have z0 := b1.f 0; have z1 := b1.f 1; have z2 := b1.f 2; have z3 := b1.f 3; have z4 := b1.f 4; have z5 := b1.f 5; have y0 := b1.cell 0 _ rfl; have y1 := b1.cell 1 _ rfl; have y2 := b1.cell 2 _ rfl; have y3 := b1.cell 3 _ rfl; have y4 := b1.cell 4 _ rfl; have y5 := b1.cell 5 _ rfl; have lz := b1.lt; replace hB := hB.trans (hb.mono (by have := hB.size; omega)); clear hb) | (go_at_call 37; (with_reducible refine (hd c _ _ (by first | with_reducible exact hC | with_reducible exact clDrew hC)).mono ?_); rintro r uz ⟨rfl, hC3, hk⟩; (with_reducible (first | (replace hk := keDrew hk) | skip)); replace b1 := b1.ke (by omega) hk; have z0 := b1.f 0; have z1 := b1.f 1; have z2 := b1.f 2; have z3 := b1.f 3; have z4 := b1.f 4; have z5 := b1.f 5; have y0 := b1.cell 0 _ rfl; have y1 := b1.cell 1 _ rfl; have y2 := b1.cell 2 _ rfl; have y3 := b1.cell 3 _ rfl; have y4 := b1.cell 4 _ rfl; have y5 := b1.cell 5 _ rfl; have lz := b1.lt; replace cA0 := hk.cellK cA0 (show n ≠ c by omega); replace cA1 := hk.cellK cA1 (show n ≠ c by omega); replace cA2 := hk.cellK cA2 (show n ≠ c by omega); replace cA3 := hk.cellK cA3 (show n ≠ c by omega); replace cA4 := hk.cellK cA4 (show n ≠ c by omega); replace cA5 := hk.cellK cA5 (show n ≠ c by omega); replace hB := hk.below hB (by omega) (by have := hB.size; omega); clear hk hC; have hC := hC3; clear hC3) | (go_at_call 36; (with_reducible refine (hch c _ hC).mono ?_); rintro r uz ⟨rfl, hb⟩; replace cA0 := bkeep hb cA0; replace cA1 := bkeep hb cA1; replace cA2 := bkeep hb cA2; replace cA3 := bkeep hb cA3; replace cA4 := bkeep hb cA4; replace cA5 := bkeep hb cA5; replace b1 := b1.keep hb; have z0 := b1.f 0; have z1 := b1.f 1; have z2 := b1.f 2; have z3 := b1.f 3; have z4 := b1.f 4; have z5 := b1.f 5; have y0 := b1.cell 0 _ rfl; have y1 := b1.cell 1 _ rfl; have y2 := b1.cell 2 _ rfl; have y3 := b1.cell 3 _ rfl; have y4 := b1.cell 4 _ rfl; have y5 := b1.cell 5 _ rfl; have lz := b1.lt; replace hB := hB.trans (hb.mono (by have := hB.size; omega)); clear hb))
  all_goals
    subst hn
    have y0 := b1.cell 0 _ rfl
    have y1 := b1.cell 1 _ rfl
    have y2 := b1.cell 2 _ rfl
    have y3 := b1.cell 3 _ rfl
    have y4 := b1.cell 4 _ rfl
    have y5 := b1.cell 5 _ rfl
    have z0 := b1.f 0
    have z1 := b1.f 1
    have z2 := b1.f 2
    have z3 := b1.f 3
    have z4 := b1.f 4
    have z5 := b1.f 5
    have lz := b1.lt
    try go_wp2
    refine bodyPost_ret (v := .tuple #[.agg #[.int .i64 (Y).x0, .int .i64 (Y).x1, .int .i64 (Y).y0, .int .i64 (Y).y1, .int .i64 (Y).z0, .int .i64 (Y).z1], .int .i64 (Y).e]) (by simp [results, Tryz.results25, go_sem, y0, z0, y1, z1, y2, z2, y3, z3, y4, z4, y5, z5, lz]) rfl ⟨rfl, below6 hB (by omega) _ _ _ _ _ _⟩
end Go.Proofs.YtnfapdmbkpkkdaaGreat
