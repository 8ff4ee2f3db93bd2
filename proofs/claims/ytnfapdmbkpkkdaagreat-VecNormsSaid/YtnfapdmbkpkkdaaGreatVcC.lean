/-
  Package vec: sums and norms; Check; calculators of one or two vectors; what they return.
-/
import Derived.Test.YtnfapdmbkpkkdaaGreatVpSqr
namespace Go.Proofs.YtnfapdmbkpkkdaaGreat
open Go.RowKit

def vSumR (a0 a1 a2 a3 a4 a5 : Int) : Int × Int × Int :=
  ((sAddR (sAddR a0 a1 a2 a3).1 (sAddR a0 a1 a2 a3).2.1 a4 a5).1, (sAddR (sAddR a0 a1 a2 a3).1 (sAddR a0 a1 a2 a3).2.1 a4 a5).2.1, fo (sAddR a0 a1 a2 a3).2.2 (sAddR (sAddR a0 a1 a2 a3).1 (sAddR a0 a1 a2 a3).2.1 a4 a5).2.2)
def vNormS (q : VR) : Int × Int × Int := vSumR q.x0 q.x1 q.y0 q.y1 q.z0 q.z1
def vNormT (q : VR) : Int × Int × Int := sSqrtR (vNormS q).1 (vNormS q).2.1
def vNormR (a0 a1 a2 a3 a4 a5 : Int) : Int × Int × Int :=
  ((vNormT (vEachR sSqrR a0 a1 a2 a3 a4 a5)).1, (vNormT (vEachR sSqrR a0 a1 a2 a3 a4 a5)).2.1, fo (vEachR sSqrR a0 a1 a2 a3 a4 a5).e (fo (vNormS (vEachR sSqrR a0 a1 a2 a3 a4 a5)).2.2 (vNormT (vEachR sSqrR a0 a1 a2 a3 a4 a5)).2.2))
/-- The error of a vector that is not valid. -/
def ckV (a0 a1 a2 a3 a4 a5 : Int) : Int := if ckS a0 a1 = 0 ∧ ckS a2 a3 = 0 ∧ ckS a4 a5 = 0 then 0 else 20
set_option maxHeartbeats 4000000 in
theorem vSum_any (p : Nat) (e a0 a1 a2 a3 a4 a5 : Int) (w : World) (hC : Cl w p e) :
    Calls Tryz.prog 53 #[.pointer (some ⟨p, 0, none⟩), .agg #[.int .i64 a0, .int .i64 a1, .int .i64 a2, .int .i64 a3, .int .i64 a4, .int .i64 a5]] w fun r w' => r = .returned (.agg #[.int .i64 (vSumR a0 a1 a2 a3 a4 a5).1, .int .i64 (vSumR a0 a1 a2 a3 a4 a5).2.1]) ∧ Cl w' p (fo e (vSumR a0 a1 a2 a3 a4 a5).2.2) ∧ Ke p w w' := by
  simp only [vSumR]
  have h0 := fun e w h => vAdd_any p e a0 a1 a2 a3 w h
  generalize sAddR a0 a1 a2 a3 = m0 at *
  have h1 := fun e w h => vAdd_any p e m0.1 m0.2.1 a4 a5 w h
  generalize sAddR m0.1 m0.2.1 a4 a5 = m1 at *
  have b0 := ((Bn.new w #[.int .i64 a0, .int .i64 a1, .int .i64 a2, .int .i64 a3, .int .i64 a4, .int .i64 a5] 25).alloc (.cells #[.int .i64 0, .int .i64 0] 23))
  have b1 := (Bn.new (w.alloc (.cells #[.int .i64 a0, .int .i64 a1, .int .i64 a2, .int .i64 a3, .int .i64 a4, .int .i64 a5] 25)) #[.int .i64 0, .int .i64 0] 23)
  rw [show (w.alloc (.cells #[.int .i64 a0, .int .i64 a1, .int .i64 a2, .int .i64 a3, .int .i64 a4, .int .i64 a5] 25)).heap.size = w.heap.size + 1 by simp] at b1
  have hC2 := ((hC.alloc (.cells #[.int .i64 a0, .int .i64 a1, .int .i64 a2, .int .i64 a3, .int .i64 a4, .int .i64 a5] 25)).alloc (.cells #[.int .i64 0, .int .i64 0] 23))
  have l0 := hC.lt
  have hk0 : Ke p w ((w.alloc (.cells #[.int .i64 a0, .int .i64 a1, .int .i64 a2, .int .i64 a3, .int .i64 a4, .int .i64 a5] 25)).alloc (.cells #[.int .i64 0, .int .i64 0] 23)) := Ke.of (by (repeat (first | with_reducible exact Below.refl _ _ | with_reducible assumption | refine Below.alloc ?_ (by (try simp); try omega) _ | refine Below.setCell ?_ (by (try simp); try omega) _ | refine below_drewN ?_ _ | refine Below.drew ?_ | (with_reducible refine Below.trans ?_ (Below.mono (by assumption) (by (try simp); try omega))))))
  clear hC
  go_enter Tryz.func53, Tryz.ntmps53
  go_wp2_with fail
  generalize ((w.alloc (.cells #[.int .i64 a0, .int .i64 a1, .int .i64 a2, .int .i64 a3, .int .i64 a4, .int .i64 a5] 25)).alloc (.cells #[.int .i64 0, .int .i64 0] 23)) = v0 at *
  generalize hn : w.heap.size = n at *
  have cb00 : v0.cell? ⟨n, 0, none⟩ = some (.int .i64 a0) := b0.cell 0 _ rfl
  have cb01 : v0.cell? ⟨n, 1, none⟩ = some (.int .i64 a1) := b0.cell 1 _ rfl
  have cb02 : v0.cell? ⟨n, 2, none⟩ = some (.int .i64 a2) := b0.cell 2 _ rfl
  have cb03 : v0.cell? ⟨n, 3, none⟩ = some (.int .i64 a3) := b0.cell 3 _ rfl
  have cb04 : v0.cell? ⟨n, 4, none⟩ = some (.int .i64 a4) := b0.cell 4 _ rfl
  have cb05 : v0.cell? ⟨n, 5, none⟩ = some (.int .i64 a5) := b0.cell 5 _ rfl
  clear b0
  go_region_held3 (fun w' => w'.cell? ⟨n, 0, none⟩ = some (.int .i64 a0) ∧ w'.cell? ⟨n, 1, none⟩ = some (.int .i64 a1) ∧ w'.cell? ⟨n, 2, none⟩ = some (.int .i64 a2) ∧ w'.cell? ⟨n, 3, none⟩ = some (.int .i64 a3) ∧ w'.cell? ⟨n, 4, none⟩ = some (.int .i64 a4) ∧ w'.cell? ⟨n, 5, none⟩ = some (.int .i64 a5))
    (first | with_reducible exact ⟨cb00, cb01, cb02, cb03, cb04, cb05⟩ | with_reducible exact ⟨cellDrewI cb00, cellDrewI cb01, cellDrewI cb02, cellDrewI cb03, cellDrewI cb04, cellDrewI cb05⟩ | with_reducible exact ⟨cellFar2 cb00 (by omega) _ _, cellFar2 cb01 (by omega) _ _, cellFar2 cb02 (by omega) _ _, cellFar2 cb03 (by omega) _ _, cellFar2 cb04 (by omega) _ _, cellFar2 cb05 (by omega) _ _⟩)
    (first | (go_at_call 38; (with_reducible refine (h0 _ _ (by first | with_reducible exact hC2 | with_reducible exact clDrew hC2)).mono ?_); rintro r uz ⟨rfl, hC3, hk⟩; (with_reducible (first | (replace hk := keDrew hk) | skip)); replace b1 := b1.ke (by omega) hk; have z0 := b1.f 0; have z1 := b1.f 1; have y0 := b1.cell 0 _ rfl; have y1 := b1.cell 1 _ rfl; have lz := b1.lt; replace cb00 := hk.cellK cb00 (show n ≠ p by omega); replace cb01 := hk.cellK cb01 (show n ≠ p by omega); replace cb02 := hk.cellK cb02 (show n ≠ p by omega); replace cb03 := hk.cellK cb03 (show n ≠ p by omega); replace cb04 := hk.cellK cb04 (show n ≠ p by omega); replace cb05 := hk.cellK cb05 (show n ≠ p by omega); replace hk0 := hk0.trans hk; clear hk hC2; have hC2 := hC3; clear hC3) | (go_at_call 38; (with_reducible refine (h1 _ _ (by first | with_reducible exact hC2 | with_reducible exact clDrew hC2)).mono ?_); rintro r uz ⟨rfl, hC3, hk⟩; (with_reducible (first | (replace hk := keDrew hk) | skip)); replace b1 := b1.ke (by omega) hk; have z0 := b1.f 0; have z1 := b1.f 1; have y0 := b1.cell 0 _ rfl; have y1 := b1.cell 1 _ rfl; have lz := b1.lt; replace cb00 := hk.cellK cb00 (show n ≠ p by omega); replace cb01 := hk.cellK cb01 (show n ≠ p by omega); replace cb02 := hk.cellK cb02 (show n ≠ p by omega); replace cb03 := hk.cellK cb03 (show n ≠ p by omega); replace cb04 := hk.cellK cb04 (show n ≠ p by omega); replace cb05 := hk.cellK cb05 (show n ≠ p by omega); replace hk0 := hk0.trans hk; clear hk hC2; have hC2 := hC3; clear hC3))
  have s0 := b1.cell 0 _ rfl
  have s1 := b1.cell 1 _ rfl
  have z0 := b1.f 0
  have z1 := b1.f 1
  have l2 := b1.lt
  go_wp2
  refine bodyPost_ret (v := .agg #[.int .i64 m1.1, .int .i64 m1.2.1]) (by simp [results, Tryz.results53, go_sem, s0, s1, z0, z1, l2]) rfl ⟨rfl, ?_, ?_⟩
  · rw [← fo_assoc]; exact Bn.far2 hC2 (by omega) _ _
  · exact hk0.put2 (by omega) _ _
set_option maxHeartbeats 4000000 in
theorem vNorm_any (p : Nat) (e a0 a1 a2 a3 a4 a5 : Int) (w : World) (hC : Cl w p e) :
    Calls Tryz.prog 57 #[.pointer (some ⟨p, 0, none⟩), .agg #[.int .i64 a0, .int .i64 a1, .int .i64 a2, .int .i64 a3, .int .i64 a4, .int .i64 a5]] w fun r w' => r = .returned (.agg #[.int .i64 (vNormR a0 a1 a2 a3 a4 a5).1, .int .i64 (vNormR a0 a1 a2 a3 a4 a5).2.1]) ∧ Cl w' p (fo e (vNormR a0 a1 a2 a3 a4 a5).2.2) ∧ Ke p w w' := by
  simp only [vNormR]
  have h0 := fun e w h => each_sqr p e a0 a1 a2 a3 a4 a5 w h
  generalize vEachR sSqrR a0 a1 a2 a3 a4 a5 = q at *
  have h1 := fun e w h => vSum_any p e q.x0 q.x1 q.y0 q.y1 q.z0 q.z1 w h
  rw [show vSumR q.x0 q.x1 q.y0 q.y1 q.z0 q.z1 = vNormS q from rfl] at h1
  have h2 := fun e w h => vSqrt_any p e (vNormS q).1 (vNormS q).2.1 w h
  rw [show sSqrtR (vNormS q).1 (vNormS q).2.1 = vNormT q from rfl] at h2
  generalize vNormT q = t at *
  generalize vNormS q = s at *
  have b0 := ((Bn.new w #[.int .i64 a0, .int .i64 a1, .int .i64 a2, .int .i64 a3, .int .i64 a4, .int .i64 a5] 25).alloc (.cells #[.int .i64 0, .int .i64 0] 23))
  have b1 := (Bn.new (w.alloc (.cells #[.int .i64 a0, .int .i64 a1, .int .i64 a2, .int .i64 a3, .int .i64 a4, .int .i64 a5] 25)) #[.int .i64 0, .int .i64 0] 23)
  rw [show (w.alloc (.cells #[.int .i64 a0, .int .i64 a1, .int .i64 a2, .int .i64 a3, .int .i64 a4, .int .i64 a5] 25)).heap.size = w.heap.size + 1 by simp] at b1
  have hC2 := ((hC.alloc (.cells #[.int .i64 a0, .int .i64 a1, .int .i64 a2, .int .i64 a3, .int .i64 a4, .int .i64 a5] 25)).alloc (.cells #[.int .i64 0, .int .i64 0] 23))
  have l0 := hC.lt
  have hk0 : Ke p w ((w.alloc (.cells #[.int .i64 a0, .int .i64 a1, .int .i64 a2, .int .i64 a3, .int .i64 a4, .int .i64 a5] 25)).alloc (.cells #[.int .i64 0, .int .i64 0] 23)) := Ke.of (by (repeat (first | with_reducible exact Below.refl _ _ | with_reducible assumption | refine Below.alloc ?_ (by (try simp); try omega) _ | refine Below.setCell ?_ (by (try simp); try omega) _ | refine below_drewN ?_ _ | refine Below.drew ?_ | (with_reducible refine Below.trans ?_ (Below.mono (by assumption) (by (try simp); try omega))))))
  have c0 := b0.cell 0 _ rfl
  have c1 := b0.cell 1 _ rfl
  have c2 := b0.cell 2 _ rfl
  have c3 := b0.cell 3 _ rfl
  have c4 := b0.cell 4 _ rfl
  have c5 := b0.cell 5 _ rfl
  clear hC b0
  go_enter Tryz.func57, Tryz.ntmps57
  go_wp2_with fail
  go_at_call 44
  refine (h0 _ _ hC2).mono ?_
  rintro r uz ⟨rfl, hC3, hk⟩
  replace b1 := b1.ke (by omega) hk
  replace hk0 := hk0.trans hk
  clear hk hC2
  have hC2 := hC3
  clear hC3
  clear c0 c1 c2 c3 c4 c5
  go_wp2_with fail
  go_at_call 53
  refine (h1 _ _ hC2).mono ?_
  rintro r uz ⟨rfl, hC3, hk⟩
  replace b1 := b1.ke (by omega) hk
  replace hk0 := hk0.trans hk
  clear hk hC2
  have hC2 := hC3
  clear hC3
  go_wp2_with fail
  go_at_call 79
  refine (h2 _ _ hC2).mono ?_
  rintro r uz ⟨rfl, hC3, hk⟩
  replace b1 := b1.ke (by omega) hk
  replace hk0 := hk0.trans hk
  clear hk hC2
  have hC2 := hC3
  clear hC3
  have s0 := b1.cell 0 _ rfl
  have s1 := b1.cell 1 _ rfl
  have z0 := b1.f 0
  have z1 := b1.f 1
  have l2 := b1.lt
  go_wp2
  refine bodyPost_ret (v := .agg #[.int .i64 t.1, .int .i64 t.2.1]) (by simp [results, Tryz.results57, go_sem, s0, s1, z0, z1, l2]) rfl ⟨rfl, ?_, ?_⟩
  · rw [← fo_assoc, ← fo_assoc]; exact Bn.far2 hC2 (by omega) _ _
  · exact hk0.put2 (by omega) _ _
theorem threeOf_any (l h : Int) (w : World) :
    Calls Tryz.prog 48 #[.agg #[.int .i64 l, .int .i64 h]] w fun r w' => r = .returned (.agg #[.int .i64 l, .int .i64 h, .int .i64 l, .int .i64 h, .int .i64 l, .int .i64 h]) ∧ Below w.heap.size w w' := by
  go_enter Tryz.func48, Tryz.ntmps48
  go_wp2
  refine bodyPost_ret (v := .agg #[.int .i64 l, .int .i64 h, .int .i64 l, .int .i64 h, .int .i64 l, .int .i64 h]) (by simp [results, Tryz.results48, go_sem]) rfl ⟨rfl, by (repeat (first | with_reducible exact Below.refl _ _ | with_reducible assumption | refine Below.alloc ?_ (by (try simp); try omega) _ | refine Below.setCell ?_ (by (try simp); try omega) _ | refine below_drewN ?_ _ | refine Below.drew ?_ | (with_reducible refine Below.trans ?_ (Below.mono (by assumption) (by (try simp); try omega)))))⟩
theorem remade_any (l h : Int) (w : World) :
    Calls Tryz.prog 47 #[.agg #[.int .i64 l, .int .i64 h]] w fun r w' => r = .returned (.agg #[.int .i64 (ofR l h).1, .int .i64 (ofR l h).2.1]) ∧ Below w.heap.size w w' := by
  have hs := fun w => sOf_any l h w
  generalize ofR l h = m at *
  have b0 := ((Bn.new w #[.int .i64 l, .int .i64 h] 23).alloc (.cells #[.int .i64 0, .int .i64 0] 23))
  have b1 := (Bn.new (w.alloc (.cells #[.int .i64 l, .int .i64 h] 23)) #[.int .i64 0, .int .i64 0] 23)
  rw [show (w.alloc (.cells #[.int .i64 l, .int .i64 h] 23)).heap.size = w.heap.size + 1 by simp] at b1
  have hB : Below w.heap.size w ((w.alloc (.cells #[.int .i64 l, .int .i64 h] 23)).alloc (.cells #[.int .i64 0, .int .i64 0] 23)) := by (repeat (first | with_reducible exact Below.refl _ _ | with_reducible assumption | refine Below.alloc ?_ (by (try simp); try omega) _ | refine Below.setCell ?_ (by (try simp); try omega) _ | refine below_drewN ?_ _ | refine Below.drew ?_ | (with_reducible refine Below.trans ?_ (Below.mono (by assumption) (by (try simp); try omega)))))
  clear b0
  go_enter Tryz.func47, Tryz.ntmps47
  go_wp2_with fail
  go_at_call 74
  refine (hs _).mono ?_
  rintro r uz ⟨rfl, hb⟩
  replace b1 := b1.keep hb
  replace hB := hB.trans (hb.mono hB.size)
  clear hb
  have l1 := b1.lt
  have s0 := b1.cell 0 _ rfl
  have s1 := b1.cell 1 _ rfl
  have z0 := b1.f 0
  have z1 := b1.f 1
  go_wp2
  refine bodyPost_ret (v := .agg #[.int .i64 m.1, .int .i64 m.2.1]) (by simp [results, Tryz.results47, go_sem, l1, s0, s1, z0, z1]) rfl ⟨rfl, by (repeat (first | with_reducible exact Below.refl _ _ | with_reducible assumption | refine Below.alloc ?_ (by (try simp); try omega) _ | refine Below.setCell ?_ (by (try simp); try omega) _ | refine below_drewN ?_ _ | refine Below.drew ?_ | (with_reducible refine Below.trans ?_ (Below.mono (by assumption) (by (try simp); try omega)))))⟩
set_option maxHeartbeats 4000000 in
theorem each_remade (a0 a1 a2 a3 a4 a5 : Int) (w : World) :
    Calls Tryz.prog 44 #[.func (.func 47) #[] #[], .agg #[.int .i64 a0, .int .i64 a1, .int .i64 a2, .int .i64 a3, .int .i64 a4, .int .i64 a5]] w fun r w' => r = .returned (.agg #[.int .i64 (ofR a0 a1).1, .int .i64 (ofR a0 a1).2.1, .int .i64 (ofR a2 a3).1, .int .i64 (ofR a2 a3).2.1, .int .i64 (ofR a4 a5).1, .int .i64 (ofR a4 a5).2.1]) ∧ Below w.heap.size w w' := by
  have h0 := fun w => remade_any a0 a1 w
  generalize ofR a0 a1 = m0 at *
  have h1 := fun w => remade_any a2 a3 w
  generalize ofR a2 a3 = m1 at *
  have h2 := fun w => remade_any a4 a5 w
  generalize ofR a4 a5 = m2 at *
  have b0 := ((Bn.new w #[.int .i64 a0, .int .i64 a1, .int .i64 a2, .int .i64 a3, .int .i64 a4, .int .i64 a5] 25).alloc (.cells #[.int .i64 0, .int .i64 0, .int .i64 0, .int .i64 0, .int .i64 0, .int .i64 0] 25))
  have b1 := (Bn.new (w.alloc (.cells #[.int .i64 a0, .int .i64 a1, .int .i64 a2, .int .i64 a3, .int .i64 a4, .int .i64 a5] 25)) #[.int .i64 0, .int .i64 0, .int .i64 0, .int .i64 0, .int .i64 0, .int .i64 0] 25)
  rw [show (w.alloc (.cells #[.int .i64 a0, .int .i64 a1, .int .i64 a2, .int .i64 a3, .int .i64 a4, .int .i64 a5] 25)).heap.size = w.heap.size + 1 by simp] at b1
  have hB : Below w.heap.size w ((w.alloc (.cells #[.int .i64 a0, .int .i64 a1, .int .i64 a2, .int .i64 a3, .int .i64 a4, .int .i64 a5] 25)).alloc (.cells #[.int .i64 0, .int .i64 0, .int .i64 0, .int .i64 0, .int .i64 0, .int .i64 0] 25)) := by (repeat (first | with_reducible exact Below.refl _ _ | with_reducible assumption | refine Below.alloc ?_ (by (try simp); try omega) _ | refine Below.setCell ?_ (by (try simp); try omega) _ | refine below_drewN ?_ _ | refine Below.drew ?_ | (with_reducible refine Below.trans ?_ (Below.mono (by assumption) (by (try simp); try omega)))))
  go_enter Tryz.func44, Tryz.ntmps44
  go_wp2_with fail
  generalize ((w.alloc (.cells #[.int .i64 a0, .int .i64 a1, .int .i64 a2, .int .i64 a3, .int .i64 a4, .int .i64 a5] 25)).alloc (.cells #[.int .i64 0, .int .i64 0, .int .i64 0, .int .i64 0, .int .i64 0, .int .i64 0] 25)) = v0 at *
  generalize hn : w.heap.size = n at *
  have cb00 : v0.cell? ⟨n, 0, none⟩ = some (.int .i64 a0) := b0.cell 0 _ rfl
  have cb01 : v0.cell? ⟨n, 1, none⟩ = some (.int .i64 a1) := b0.cell 1 _ rfl
  have cb02 : v0.cell? ⟨n, 2, none⟩ = some (.int .i64 a2) := b0.cell 2 _ rfl
  have cb03 : v0.cell? ⟨n, 3, none⟩ = some (.int .i64 a3) := b0.cell 3 _ rfl
  have cb04 : v0.cell? ⟨n, 4, none⟩ = some (.int .i64 a4) := b0.cell 4 _ rfl
  have cb05 : v0.cell? ⟨n, 5, none⟩ = some (.int .i64 a5) := b0.cell 5 _ rfl
  clear b0
  go_region_held3 (fun w' => w'.cell? ⟨n, 0, none⟩ = some (.int .i64 a0) ∧ w'.cell? ⟨n, 1, none⟩ = some (.int .i64 a1) ∧ w'.cell? ⟨n, 2, none⟩ = some (.int .i64 a2) ∧ w'.cell? ⟨n, 3, none⟩ = some (.int .i64 a3) ∧ w'.cell? ⟨n, 4, none⟩ = some (.int .i64 a4) ∧ w'.cell? ⟨n, 5, none⟩ = some (.int .i64 a5))
    (first | with_reducible exact ⟨cb00, cb01, cb02, cb03, cb04, cb05⟩ | with_reducible exact ⟨cellDrewI cb00, cellDrewI cb01, cellDrewI cb02, cellDrewI cb03, cellDrewI cb04, cellDrewI cb05⟩ | with_reducible exact ⟨cellFar6 cb00 (by omega) _ _ _ _ _ _, cellFar6 cb01 (by omega) _ _ _ _ _ _, cellFar6 cb02 (by omega) _ _ _ _ _ _, cellFar6 cb03 (by omega) _ _ _ _ _ _, cellFar6 cb04 (by omega) _ _ _ _ _ _, cellFar6 cb05 (by omega) _ _ _ _ _ _⟩)
    (first | (go_at_call 47; (with_reducible refine (h0 _).mono ?_); rintro r uz ⟨rfl, hb⟩; (with_reducible (first | (replace hb := vUndrew hb) | skip)); replace b1 := b1.keep hb; have z0 := b1.f 0; have y0 := b1.cell 0 _ rfl; have z1 := b1.f 1; have y1 := b1.cell 1 _ rfl; have z2 := b1.f 2; have y2 := b1.cell 2 _ rfl; have z3 := b1.f 3; have y3 := b1.cell 3 _ rfl; have z4 := b1.f 4; have y4 := b1.cell 4 _ rfl; have z5 := b1.f 5; have y5 := b1.cell 5 _ rfl; have lz := b1.lt; replace cb00 := bkeep hb cb00; replace cb01 := bkeep hb cb01; replace cb02 := bkeep hb cb02; replace cb03 := bkeep hb cb03; replace cb04 := bkeep hb cb04; replace cb05 := bkeep hb cb05; replace hB := hB.trans (hb.mono (by have := hB.size; omega)); clear hb) | (go_at_call 47; (with_reducible refine (h1 _).mono ?_); rintro r uz ⟨rfl, hb⟩; (with_reducible (first | (replace hb := vUndrew hb) | skip)); replace b1 := b1.keep hb; have z0 := b1.f 0; have y0 := b1.cell 0 _ rfl; have z1 := b1.f 1; have y1 := b1.cell 1 _ rfl; have z2 := b1.f 2; have y2 := b1.cell 2 _ rfl; have z3 := b1.f 3; have y3 := b1.cell 3 _ rfl; have z4 := b1.f 4; have y4 := b1.cell 4 _ rfl; have z5 := b1.f 5; have y5 := b1.cell 5 _ rfl; have lz := b1.lt; replace cb00 := bkeep hb cb00; replace cb01 := bkeep hb cb01; replace cb02 := bkeep hb cb02; replace cb03 := bkeep hb cb03; replace cb04 := bkeep hb cb04; replace cb05 := bkeep hb cb05; replace hB := hB.trans (hb.mono (by have := hB.size; omega)); clear hb) | (go_at_call 47; (with_reducible refine (h2 _).mono ?_); rintro r uz ⟨rfl, hb⟩; (with_reducible (first | (replace hb := vUndrew hb) | skip)); replace b1 := b1.keep hb; have z0 := b1.f 0; have y0 := b1.cell 0 _ rfl; have z1 := b1.f 1; have y1 := b1.cell 1 _ rfl; have z2 := b1.f 2; have y2 := b1.cell 2 _ rfl; have z3 := b1.f 3; have y3 := b1.cell 3 _ rfl; have z4 := b1.f 4; have y4 := b1.cell 4 _ rfl; have z5 := b1.f 5; have y5 := b1.cell 5 _ rfl; have lz := b1.lt; replace cb00 := bkeep hb cb00; replace cb01 := bkeep hb cb01; replace cb02 := bkeep hb cb02; replace cb03 := bkeep hb cb03; replace cb04 := bkeep hb cb04; replace cb05 := bkeep hb cb05; replace hB := hB.trans (hb.mono (by have := hB.size; omega)); clear hb))
  subst hn
  have s0 := b1.cell 0 _ rfl
  have s1 := b1.cell 1 _ rfl
  have s2 := b1.cell 2 _ rfl
  have s3 := b1.cell 3 _ rfl
  have s4 := b1.cell 4 _ rfl
  have s5 := b1.cell 5 _ rfl
  have z0 := b1.f 0
  have z1 := b1.f 1
  have z2 := b1.f 2
  have z3 := b1.f 3
  have z4 := b1.f 4
  have z5 := b1.f 5
  have l2 := b1.lt
  go_wp2
  refine bodyPost_ret (v := .agg #[.int .i64 m0.1, .int .i64 m0.2.1, .int .i64 m1.1, .int .i64 m1.2.1, .int .i64 m2.1, .int .i64 m2.2.1]) (by simp [results, Tryz.results44, go_sem, s0, z0, s1, z1, s2, z2, s3, z3, s4, z4, s5, z5, l2]) rfl ⟨rfl, below6 hB (by omega) _ _ _ _ _ _⟩
end Go.Proofs.YtnfapdmbkpkkdaaGreat
