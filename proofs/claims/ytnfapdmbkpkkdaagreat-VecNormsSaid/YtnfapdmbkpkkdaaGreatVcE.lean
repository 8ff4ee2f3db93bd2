/-
  Package vec: what its functions return.
-/
import Derived.Test.YtnfapdmbkpkkdaaGreatVcD
import Derived.Test.YtnfapdmbkpkkdaaGreatVpAdd
import Derived.Test.YtnfapdmbkpkkdaaGreatVpSub
import Derived.Test.YtnfapdmbkpkkdaaGreatVpMul
import Derived.Test.YtnfapdmbkpkkdaaGreatVpDiv
import Derived.Test.YtnfapdmbkpkkdaaGreatVpNeg
namespace Go.Proofs.YtnfapdmbkpkkdaaGreat
open Go.RowKit

def vAddR (a0 a1 a2 a3 a4 a5 d0 d1 d2 d3 d4 d5 : Int) : VR := vTold (fo (fo (ckV a0 a1 a2 a3 a4 a5) (ckV d0 d1 d2 d3 d4 d5)) (vPairR sAddR a0 a1 a2 a3 a4 a5 d0 d1 d2 d3 d4 d5).e) (vPairR sAddR a0 a1 a2 a3 a4 a5 d0 d1 d2 d3 d4 d5)
set_option maxRecDepth 100000 in
set_option maxHeartbeats 4000000 in
theorem pAdd_any (a0 a1 a2 a3 a4 a5 d0 d1 d2 d3 d4 d5 : Int) (w : World) :
    Calls Tryz.prog 8 #[.agg #[.int .i64 a0, .int .i64 a1, .int .i64 a2, .int .i64 a3, .int .i64 a4, .int .i64 a5], .agg #[.int .i64 d0, .int .i64 d1, .int .i64 d2, .int .i64 d3, .int .i64 d4, .int .i64 d5]] w fun r w' => r = .returned (.tuple #[.agg #[.int .i64 (vAddR a0 a1 a2 a3 a4 a5 d0 d1 d2 d3 d4 d5).x0, .int .i64 (vAddR a0 a1 a2 a3 a4 a5 d0 d1 d2 d3 d4 d5).x1, .int .i64 (vAddR a0 a1 a2 a3 a4 a5 d0 d1 d2 d3 d4 d5).y0, .int .i64 (vAddR a0 a1 a2 a3 a4 a5 d0 d1 d2 d3 d4 d5).y1, .int .i64 (vAddR a0 a1 a2 a3 a4 a5 d0 d1 d2 d3 d4 d5).z0, .int .i64 (vAddR a0 a1 a2 a3 a4 a5 d0 d1 d2 d3 d4 d5).z1], .int .i64 (vAddR a0 a1 a2 a3 a4 a5 d0 d1 d2 d3 d4 d5).e]) ∧ Below w.heap.size w w' := by
  simp only [vAddR]
  have hp := fun c e w h => pairs_add c e a0 a1 a2 a3 a4 a5 d0 d1 d2 d3 d4 d5 w h
  generalize vPairR sAddR a0 a1 a2 a3 a4 a5 d0 d1 d2 d3 d4 d5 = q at *
  have hcal := fun q w hh => calc2_any q 25 a0 a1 a2 a3 a4 a5 d0 d1 d2 d3 d4 d5 w hh
  generalize fo (ckV a0 a1 a2 a3 a4 a5) (ckV d0 d1 d2 d3 d4 d5) = k at *
  have hch := fun c w hh => checkedV_any c (fo k q.e) q w hh
  generalize vTold (fo k q.e) q = Y at *
  have b0 := (((Bn.new w #[.int .i64 a0, .int .i64 a1, .int .i64 a2, .int .i64 a3, .int .i64 a4, .int .i64 a5] 25).alloc (.cells #[.int .i64 d0, .int .i64 d1, .int .i64 d2, .int .i64 d3, .int .i64 d4, .int .i64 d5] 25)).alloc (.cells #[.int .i64 0, .int .i64 0, .int .i64 0, .int .i64 0, .int .i64 0, .int .i64 0] 25))
  have b1 := ((Bn.new (w.alloc (.cells #[.int .i64 a0, .int .i64 a1, .int .i64 a2, .int .i64 a3, .int .i64 a4, .int .i64 a5] 25)) #[.int .i64 d0, .int .i64 d1, .int .i64 d2, .int .i64 d3, .int .i64 d4, .int .i64 d5] 25).alloc (.cells #[.int .i64 0, .int .i64 0, .int .i64 0, .int .i64 0, .int .i64 0, .int .i64 0] 25))
  rw [show (w.alloc (.cells #[.int .i64 a0, .int .i64 a1, .int .i64 a2, .int .i64 a3, .int .i64 a4, .int .i64 a5] 25)).heap.size = w.heap.size + 1 by simp] at b1
  have b2 := (Bn.new ((w.alloc (.cells #[.int .i64 a0, .int .i64 a1, .int .i64 a2, .int .i64 a3, .int .i64 a4, .int .i64 a5] 25)).alloc (.cells #[.int .i64 d0, .int .i64 d1, .int .i64 d2, .int .i64 d3, .int .i64 d4, .int .i64 d5] 25)) #[.int .i64 0, .int .i64 0, .int .i64 0, .int .i64 0, .int .i64 0, .int .i64 0] 25)
  rw [show ((w.alloc (.cells #[.int .i64 a0, .int .i64 a1, .int .i64 a2, .int .i64 a3, .int .i64 a4, .int .i64 a5] 25)).alloc (.cells #[.int .i64 d0, .int .i64 d1, .int .i64 d2, .int .i64 d3, .int .i64 d4, .int .i64 d5] 25)).heap.size = w.heap.size + 2 by simp] at b2
  have hB : Below w.heap.size w (((w.alloc (.cells #[.int .i64 a0, .int .i64 a1, .int .i64 a2, .int .i64 a3, .int .i64 a4, .int .i64 a5] 25)).alloc (.cells #[.int .i64 d0, .int .i64 d1, .int .i64 d2, .int .i64 d3, .int .i64 d4, .int .i64 d5] 25)).alloc (.cells #[.int .i64 0, .int .i64 0, .int .i64 0, .int .i64 0, .int .i64 0, .int .i64 0] 25)) := by (repeat (first | with_reducible exact Below.refl _ _ | with_reducible assumption | refine Below.alloc ?_ (by (try simp); try omega) _ | refine Below.setCell ?_ (by (try simp); try omega) _ | refine below_drewN ?_ _ | refine Below.drew ?_ | (with_reducible refine Below.trans ?_ (Below.mono (by assumption) (by (try simp); try omega)))))
  go_enter Tryz.func8, Tryz.ntmps8
  have hq := Bn.new (((w.alloc (.cells #[.int .i64 a0, .int .i64 a1, .int .i64 a2, .int .i64 a3, .int .i64 a4, .int .i64 a5] 25)).alloc (.cells #[.int .i64 d0, .int .i64 d1, .int .i64 d2, .int .i64 d3, .int .i64 d4, .int .i64 d5] 25)).alloc (.cells #[.int .i64 0, .int .i64 0, .int .i64 0, .int .i64 0, .int .i64 0, .int .i64 0] 25)) #[.int .i64 a0, .int .i64 a1, .int .i64 a2, .int .i64 a3, .int .i64 a4, .int .i64 a5, .int .i64 d0, .int .i64 d1, .int .i64 d2, .int .i64 d3, .int .i64 d4, .int .i64 d5] 25
  rw [show (((w.alloc (.cells #[.int .i64 a0, .int .i64 a1, .int .i64 a2, .int .i64 a3, .int .i64 a4, .int .i64 a5] 25)).alloc (.cells #[.int .i64 d0, .int .i64 d1, .int .i64 d2, .int .i64 d3, .int .i64 d4, .int .i64 d5] 25)).alloc (.cells #[.int .i64 0, .int .i64 0, .int .i64 0, .int .i64 0, .int .i64 0, .int .i64 0] 25)).heap.size = w.heap.size + 3 by simp] at hq
  go_wp2_with fail
  go_at_call 35
  refine (hcal _ _ hq).mono ?_
  rintro r u1 ⟨c, rfl, hC, hc, hb⟩
  replace b0 := (b0.alloc (.cells #[.int .i64 a0, .int .i64 a1, .int .i64 a2, .int .i64 a3, .int .i64 a4, .int .i64 a5, .int .i64 d0, .int .i64 d1, .int .i64 d2, .int .i64 d3, .int .i64 d4, .int .i64 d5] 25)).keep hb
  replace b1 := (b1.alloc (.cells #[.int .i64 a0, .int .i64 a1, .int .i64 a2, .int .i64 a3, .int .i64 a4, .int .i64 a5, .int .i64 d0, .int .i64 d1, .int .i64 d2, .int .i64 d3, .int .i64 d4, .int .i64 d5] 25)).keep hb
  replace b2 := (b2.alloc (.cells #[.int .i64 a0, .int .i64 a1, .int .i64 a2, .int .i64 a3, .int .i64 a4, .int .i64 a5, .int .i64 d0, .int .i64 d1, .int .i64 d2, .int .i64 d3, .int .i64 d4, .int .i64 d5] 25)).keep hb
  replace hB := (hB.alloc hB.size (.cells #[.int .i64 a0, .int .i64 a1, .int .i64 a2, .int .i64 a3, .int .i64 a4, .int .i64 a5, .int .i64 d0, .int .i64 d1, .int .i64 d2, .int .i64 d3, .int .i64 d4, .int .i64 d5] 25)).trans (hb.mono (hB.alloc hB.size (.cells #[.int .i64 a0, .int .i64 a1, .int .i64 a2, .int .i64 a3, .int .i64 a4, .int .i64 a5, .int .i64 d0, .int .i64 d1, .int .i64 d2, .int .i64 d3, .int .i64 d4, .int .i64 d5] 25)).size)
  have hc2 : w.heap.size + 3 < c := by simp at hc; omega
  clear hb hq hc
  have e0 := b0.cell 0 _ rfl
  have e1 := b0.cell 1 _ rfl
  have e2 := b0.cell 2 _ rfl
  have e3 := b0.cell 3 _ rfl
  have e4 := b0.cell 4 _ rfl
  have e5 := b0.cell 5 _ rfl
  have f0 := b1.cell 0 _ rfl
  have f1 := b1.cell 1 _ rfl
  have f2 := b1.cell 2 _ rfl
  have f3 := b1.cell 3 _ rfl
  have f4 := b1.cell 4 _ rfl
  have f5 := b1.cell 5 _ rfl
  have lb0 := b0.lt
  have lb1 := b1.lt
  go_wp2_with fail
  go_at_call 37
  refine (hp c k _ hC).mono ?_
  rintro r u2 ⟨rfl, hC2, hk⟩
  replace b2 := b2.ke (by omega) hk
  replace hB := hk.below hB (by omega) hB.size
  clear hk hC
  have hC := hC2
  clear hC2
  clear e0 f0 e1 f1 e2 f2 e3 f3 e4 f4 e5 f5 lb0 lb1 b0 b1
  go_wp2_with fail
  go_at_call 36
  refine (hch c _ hC).mono ?_
  rintro r u3 ⟨rfl, hb⟩
  replace b2 := b2.keep hb
  replace hB := hB.trans (hb.mono hB.size)
  clear hb hC
  have y0 := b2.cell 0 _ rfl
  have y1 := b2.cell 1 _ rfl
  have y2 := b2.cell 2 _ rfl
  have y3 := b2.cell 3 _ rfl
  have y4 := b2.cell 4 _ rfl
  have y5 := b2.cell 5 _ rfl
  have z0 := b2.f 0
  have z1 := b2.f 1
  have z2 := b2.f 2
  have z3 := b2.f 3
  have z4 := b2.f 4
  have z5 := b2.f 5
  have lz := b2.lt
  go_wp2
  refine bodyPost_ret (v := .tuple #[.agg #[.int .i64 (Y).x0, .int .i64 (Y).x1, .int .i64 (Y).y0, .int .i64 (Y).y1, .int .i64 (Y).z0, .int .i64 (Y).z1], .int .i64 (Y).e]) (by simp [results, Tryz.results8, go_sem, y0, z0, y1, z1, y2, z2, y3, z3, y4, z4, y5, z5, lz]) rfl ⟨rfl, below6 hB (by omega) _ _ _ _ _ _⟩
def vSubR (a0 a1 a2 a3 a4 a5 d0 d1 d2 d3 d4 d5 : Int) : VR := vTold (fo (fo (ckV a0 a1 a2 a3 a4 a5) (ckV d0 d1 d2 d3 d4 d5)) (vPairR sSubR a0 a1 a2 a3 a4 a5 d0 d1 d2 d3 d4 d5).e) (vPairR sSubR a0 a1 a2 a3 a4 a5 d0 d1 d2 d3 d4 d5)
set_option maxRecDepth 100000 in
set_option maxHeartbeats 4000000 in
theorem pSub_any (a0 a1 a2 a3 a4 a5 d0 d1 d2 d3 d4 d5 : Int) (w : World) :
    Calls Tryz.prog 10 #[.agg #[.int .i64 a0, .int .i64 a1, .int .i64 a2, .int .i64 a3, .int .i64 a4, .int .i64 a5], .agg #[.int .i64 d0, .int .i64 d1, .int .i64 d2, .int .i64 d3, .int .i64 d4, .int .i64 d5]] w fun r w' => r = .returned (.tuple #[.agg #[.int .i64 (vSubR a0 a1 a2 a3 a4 a5 d0 d1 d2 d3 d4 d5).x0, .int .i64 (vSubR a0 a1 a2 a3 a4 a5 d0 d1 d2 d3 d4 d5).x1, .int .i64 (vSubR a0 a1 a2 a3 a4 a5 d0 d1 d2 d3 d4 d5).y0, .int .i64 (vSubR a0 a1 a2 a3 a4 a5 d0 d1 d2 d3 d4 d5).y1, .int .i64 (vSubR a0 a1 a2 a3 a4 a5 d0 d1 d2 d3 d4 d5).z0, .int .i64 (vSubR a0 a1 a2 a3 a4 a5 d0 d1 d2 d3 d4 d5).z1], .int .i64 (vSubR a0 a1 a2 a3 a4 a5 d0 d1 d2 d3 d4 d5).e]) ∧ Below w.heap.size w w' := by
  simp only [vSubR]
  have hp := fun c e w h => pairs_sub c e a0 a1 a2 a3 a4 a5 d0 d1 d2 d3 d4 d5 w h
  generalize vPairR sSubR a0 a1 a2 a3 a4 a5 d0 d1 d2 d3 d4 d5 = q at *
  have hcal := fun q w hh => calc2_any q 25 a0 a1 a2 a3 a4 a5 d0 d1 d2 d3 d4 d5 w hh
  generalize fo (ckV a0 a1 a2 a3 a4 a5) (ckV d0 d1 d2 d3 d4 d5) = k at *
  have hch := fun c w hh => checkedV_any c (fo k q.e) q w hh
  generalize vTold (fo k q.e) q = Y at *
  have b0 := (((Bn.new w #[.int .i64 a0, .int .i64 a1, .int .i64 a2, .int .i64 a3, .int .i64 a4, .int .i64 a5] 25).alloc (.cells #[.int .i64 d0, .int .i64 d1, .int .i64 d2, .int .i64 d3, .int .i64 d4, .int .i64 d5] 25)).alloc (.cells #[.int .i64 0, .int .i64 0, .int .i64 0, .int .i64 0, .int .i64 0, .int .i64 0] 25))
  have b1 := ((Bn.new (w.alloc (.cells #[.int .i64 a0, .int .i64 a1, .int .i64 a2, .int .i64 a3, .int .i64 a4, .int .i64 a5] 25)) #[.int .i64 d0, .int .i64 d1, .int .i64 d2, .int .i64 d3, .int .i64 d4, .int .i64 d5] 25).alloc (.cells #[.int .i64 0, .int .i64 0, .int .i64 0, .int .i64 0, .int .i64 0, .int .i64 0] 25))
  rw [show (w.alloc (.cells #[.int .i64 a0, .int .i64 a1, .int .i64 a2, .int .i64 a3, .int .i64 a4, .int .i64 a5] 25)).heap.size = w.heap.size + 1 by simp] at b1
  have b2 := (Bn.new ((w.alloc (.cells #[.int .i64 a0, .int .i64 a1, .int .i64 a2, .int .i64 a3, .int .i64 a4, .int .i64 a5] 25)).alloc (.cells #[.int .i64 d0, .int .i64 d1, .int .i64 d2, .int .i64 d3, .int .i64 d4, .int .i64 d5] 25)) #[.int .i64 0, .int .i64 0, .int .i64 0, .int .i64 0, .int .i64 0, .int .i64 0] 25)
  rw [show ((w.alloc (.cells #[.int .i64 a0, .int .i64 a1, .int .i64 a2, .int .i64 a3, .int .i64 a4, .int .i64 a5] 25)).alloc (.cells #[.int .i64 d0, .int .i64 d1, .int .i64 d2, .int .i64 d3, .int .i64 d4, .int .i64 d5] 25)).heap.size = w.heap.size + 2 by simp] at b2
  have hB : Below w.heap.size w (((w.alloc (.cells #[.int .i64 a0, .int .i64 a1, .int .i64 a2, .int .i64 a3, .int .i64 a4, .int .i64 a5] 25)).alloc (.cells #[.int .i64 d0, .int .i64 d1, .int .i64 d2, .int .i64 d3, .int .i64 d4, .int .i64 d5] 25)).alloc (.cells #[.int .i64 0, .int .i64 0, .int .i64 0, .int .i64 0, .int .i64 0, .int .i64 0] 25)) := by (repeat (first | with_reducible exact Below.refl _ _ | with_reducible assumption | refine Below.alloc ?_ (by (try simp); try omega) _ | refine Below.setCell ?_ (by (try simp); try omega) _ | refine below_drewN ?_ _ | refine Below.drew ?_ | (with_reducible refine Below.trans ?_ (Below.mono (by assumption) (by (try simp); try omega)))))
  go_enter Tryz.func10, Tryz.ntmps10
  have hq := Bn.new (((w.alloc (.cells #[.int .i64 a0, .int .i64 a1, .int .i64 a2, .int .i64 a3, .int .i64 a4, .int .i64 a5] 25)).alloc (.cells #[.int .i64 d0, .int .i64 d1, .int .i64 d2, .int .i64 d3, .int .i64 d4, .int .i64 d5] 25)).alloc (.cells #[.int .i64 0, .int .i64 0, .int .i64 0, .int .i64 0, .int .i64 0, .int .i64 0] 25)) #[.int .i64 a0, .int .i64 a1, .int .i64 a2, .int .i64 a3, .int .i64 a4, .int .i64 a5, .int .i64 d0, .int .i64 d1, .int .i64 d2, .int .i64 d3, .int .i64 d4, .int .i64 d5] 25
  rw [show (((w.alloc (.cells #[.int .i64 a0, .int .i64 a1, .int .i64 a2, .int .i64 a3, .int .i64 a4, .int .i64 a5] 25)).alloc (.cells #[.int .i64 d0, .int .i64 d1, .int .i64 d2, .int .i64 d3, .int .i64 d4, .int .i64 d5] 25)).alloc (.cells #[.int .i64 0, .int .i64 0, .int .i64 0, .int .i64 0, .int .i64 0, .int .i64 0] 25)).heap.size = w.heap.size + 3 by simp] at hq
  go_wp2_with fail
  go_at_call 35
  refine (hcal _ _ hq).mono ?_
  rintro r u1 ⟨c, rfl, hC, hc, hb⟩
  replace b0 := (b0.alloc (.cells #[.int .i64 a0, .int .i64 a1, .int .i64 a2, .int .i64 a3, .int .i64 a4, .int .i64 a5, .int .i64 d0, .int .i64 d1, .int .i64 d2, .int .i64 d3, .int .i64 d4, .int .i64 d5] 25)).keep hb
  replace b1 := (b1.alloc (.cells #[.int .i64 a0, .int .i64 a1, .int .i64 a2, .int .i64 a3, .int .i64 a4, .int .i64 a5, .int .i64 d0, .int .i64 d1, .int .i64 d2, .int .i64 d3, .int .i64 d4, .int .i64 d5] 25)).keep hb
  replace b2 := (b2.alloc (.cells #[.int .i64 a0, .int .i64 a1, .int .i64 a2, .int .i64 a3, .int .i64 a4, .int .i64 a5, .int .i64 d0, .int .i64 d1, .int .i64 d2, .int .i64 d3, .int .i64 d4, .int .i64 d5] 25)).keep hb
  replace hB := (hB.alloc hB.size (.cells #[.int .i64 a0, .int .i64 a1, .int .i64 a2, .int .i64 a3, .int .i64 a4, .int .i64 a5, .int .i64 d0, .int .i64 d1, .int .i64 d2, .int .i64 d3, .int .i64 d4, .int .i64 d5] 25)).trans (hb.mono (hB.alloc hB.size (.cells #[.int .i64 a0, .int .i64 a1, .int .i64 a2, .int .i64 a3, .int .i64 a4, .int .i64 a5, .int .i64 d0, .int .i64 d1, .int .i64 d2, .int .i64 d3, .int .i64 d4, .int .i64 d5] 25)).size)
  have hc2 : w.heap.size + 3 < c := by simp at hc; omega
  clear hb hq hc
  have e0 := b0.cell 0 _ rfl
  have e1 := b0.cell 1 _ rfl
  have e2 := b0.cell 2 _ rfl
  have e3 := b0.cell 3 _ rfl
  have e4 := b0.cell 4 _ rfl
  have e5 := b0.cell 5 _ rfl
  have f0 := b1.cell 0 _ rfl
  have f1 := b1.cell 1 _ rfl
  have f2 := b1.cell 2 _ rfl
  have f3 := b1.cell 3 _ rfl
  have f4 := b1.cell 4 _ rfl
  have f5 := b1.cell 5 _ rfl
  have lb0 := b0.lt
  have lb1 := b1.lt
  go_wp2_with fail
  go_at_call 37
  refine (hp c k _ hC).mono ?_
  rintro r u2 ⟨rfl, hC2, hk⟩
  replace b2 := b2.ke (by omega) hk
  replace hB := hk.below hB (by omega) hB.size
  clear hk hC
  have hC := hC2
  clear hC2
  clear e0 f0 e1 f1 e2 f2 e3 f3 e4 f4 e5 f5 lb0 lb1 b0 b1
  go_wp2_with fail
  go_at_call 36
  refine (hch c _ hC).mono ?_
  rintro r u3 ⟨rfl, hb⟩
  replace b2 := b2.keep hb
  replace hB := hB.trans (hb.mono hB.size)
  clear hb hC
  have y0 := b2.cell 0 _ rfl
  have y1 := b2.cell 1 _ rfl
  have y2 := b2.cell 2 _ rfl
  have y3 := b2.cell 3 _ rfl
  have y4 := b2.cell 4 _ rfl
  have y5 := b2.cell 5 _ rfl
  have z0 := b2.f 0
  have z1 := b2.f 1
  have z2 := b2.f 2
  have z3 := b2.f 3
  have z4 := b2.f 4
  have z5 := b2.f 5
  have lz := b2.lt
  go_wp2
  refine bodyPost_ret (v := .tuple #[.agg #[.int .i64 (Y).x0, .int .i64 (Y).x1, .int .i64 (Y).y0, .int .i64 (Y).y1, .int .i64 (Y).z0, .int .i64 (Y).z1], .int .i64 (Y).e]) (by simp [results, Tryz.results10, go_sem, y0, z0, y1, z1, y2, z2, y3, z3, y4, z4, y5, z5, lz]) rfl ⟨rfl, below6 hB (by omega) _ _ _ _ _ _⟩
def vNegR (a0 a1 a2 a3 a4 a5 : Int) : VR := vTold (fo (ckV a0 a1 a2 a3 a4 a5) (vEachR sNegR a0 a1 a2 a3 a4 a5).e) (vEachR sNegR a0 a1 a2 a3 a4 a5)
set_option maxRecDepth 100000 in
set_option maxHeartbeats 4000000 in
theorem pNeg_any (a0 a1 a2 a3 a4 a5 : Int) (w : World) :
    Calls Tryz.prog 12 #[.agg #[.int .i64 a0, .int .i64 a1, .int .i64 a2, .int .i64 a3, .int .i64 a4, .int .i64 a5]] w fun r w' => r = .returned (.tuple #[.agg #[.int .i64 (vNegR a0 a1 a2 a3 a4 a5).x0, .int .i64 (vNegR a0 a1 a2 a3 a4 a5).x1, .int .i64 (vNegR a0 a1 a2 a3 a4 a5).y0, .int .i64 (vNegR a0 a1 a2 a3 a4 a5).y1, .int .i64 (vNegR a0 a1 a2 a3 a4 a5).z0, .int .i64 (vNegR a0 a1 a2 a3 a4 a5).z1], .int .i64 (vNegR a0 a1 a2 a3 a4 a5).e]) ∧ Below w.heap.size w w' := by
  simp only [vNegR]
  have hp := fun c e w h => each_neg c e a0 a1 a2 a3 a4 a5 w h
  generalize vEachR sNegR a0 a1 a2 a3 a4 a5 = q at *
  have hcal := fun q w hh => calc1_any q 25 a0 a1 a2 a3 a4 a5 w hh
  generalize ckV a0 a1 a2 a3 a4 a5 = k at *
  have hch := fun c w hh => checkedV_any c (fo k q.e) q w hh
  generalize vTold (fo k q.e) q = Y at *
  have b0 := ((Bn.new w #[.int .i64 a0, .int .i64 a1, .int .i64 a2, .int .i64 a3, .int .i64 a4, .int .i64 a5] 25).alloc (.cells #[.int .i64 0, .int .i64 0, .int .i64 0, .int .i64 0, .int .i64 0, .int .i64 0] 25))
  have b1 := (Bn.new (w.alloc (.cells #[.int .i64 a0, .int .i64 a1, .int .i64 a2, .int .i64 a3, .int .i64 a4, .int .i64 a5] 25)) #[.int .i64 0, .int .i64 0, .int .i64 0, .int .i64 0, .int .i64 0, .int .i64 0] 25)
  rw [show (w.alloc (.cells #[.int .i64 a0, .int .i64 a1, .int .i64 a2, .int .i64 a3, .int .i64 a4, .int .i64 a5] 25)).heap.size = w.heap.size + 1 by simp] at b1
  have hB : Below w.heap.size w ((w.alloc (.cells #[.int .i64 a0, .int .i64 a1, .int .i64 a2, .int .i64 a3, .int .i64 a4, .int .i64 a5] 25)).alloc (.cells #[.int .i64 0, .int .i64 0, .int .i64 0, .int .i64 0, .int .i64 0, .int .i64 0] 25)) := by (repeat (first | with_reducible exact Below.refl _ _ | with_reducible assumption | refine Below.alloc ?_ (by (try simp); try omega) _ | refine Below.setCell ?_ (by (try simp); try omega) _ | refine below_drewN ?_ _ | refine Below.drew ?_ | (with_reducible refine Below.trans ?_ (Below.mono (by assumption) (by (try simp); try omega)))))
  go_enter Tryz.func12, Tryz.ntmps12
  have hq := Bn.new ((w.alloc (.cells #[.int .i64 a0, .int .i64 a1, .int .i64 a2, .int .i64 a3, .int .i64 a4, .int .i64 a5] 25)).alloc (.cells #[.int .i64 0, .int .i64 0, .int .i64 0, .int .i64 0, .int .i64 0, .int .i64 0] 25)) #[.int .i64 a0, .int .i64 a1, .int .i64 a2, .int .i64 a3, .int .i64 a4, .int .i64 a5] 25
  rw [show ((w.alloc (.cells #[.int .i64 a0, .int .i64 a1, .int .i64 a2, .int .i64 a3, .int .i64 a4, .int .i64 a5] 25)).alloc (.cells #[.int .i64 0, .int .i64 0, .int .i64 0, .int .i64 0, .int .i64 0, .int .i64 0] 25)).heap.size = w.heap.size + 2 by simp] at hq
  go_wp2_with fail
  go_at_call 35
  refine (hcal _ _ hq).mono ?_
  rintro r u1 ⟨c, rfl, hC, hc, hb⟩
  replace b0 := (b0.alloc (.cells #[.int .i64 a0, .int .i64 a1, .int .i64 a2, .int .i64 a3, .int .i64 a4, .int .i64 a5] 25)).keep hb
  replace b1 := (b1.alloc (.cells #[.int .i64 a0, .int .i64 a1, .int .i64 a2, .int .i64 a3, .int .i64 a4, .int .i64 a5] 25)).keep hb
  replace hB := (hB.alloc hB.size (.cells #[.int .i64 a0, .int .i64 a1, .int .i64 a2, .int .i64 a3, .int .i64 a4, .int .i64 a5] 25)).trans (hb.mono (hB.alloc hB.size (.cells #[.int .i64 a0, .int .i64 a1, .int .i64 a2, .int .i64 a3, .int .i64 a4, .int .i64 a5] 25)).size)
  have hc2 : w.heap.size + 2 < c := by simp at hc; omega
  clear hb hq hc
  have e0 := b0.cell 0 _ rfl
  have e1 := b0.cell 1 _ rfl
  have e2 := b0.cell 2 _ rfl
  have e3 := b0.cell 3 _ rfl
  have e4 := b0.cell 4 _ rfl
  have e5 := b0.cell 5 _ rfl
  have lb0 := b0.lt
  go_wp2_with fail
  go_at_call 44
  refine (hp c k _ hC).mono ?_
  rintro r u2 ⟨rfl, hC2, hk⟩
  replace b1 := b1.ke (by omega) hk
  replace hB := hk.below hB (by omega) hB.size
  clear hk hC
  have hC := hC2
  clear hC2
  clear e0 e1 e2 e3 e4 e5 lb0 b0
  go_wp2_with fail
  go_at_call 36
  refine (hch c _ hC).mono ?_
  rintro r u3 ⟨rfl, hb⟩
  replace b1 := b1.keep hb
  replace hB := hB.trans (hb.mono hB.size)
  clear hb hC
  have y0 := b1.cell 0 _ rfl
  have y1 := b1.cell 1 _ rfl
  have y2 := b1.cell 2 _ rfl
  have y3 := b1.cell 3 _ rfl
  have y4 := b1.cell 4 _ rfl
  have y5 := b1.cell 5 _ rfl
  have z0 := b1.f 0
  have z1 := b1.f 1
  have z2 := b1.f 2
  have z3 := b1.f 3
  have z4 := b1.f 4
  have z5 := b1.f 5
  have lz := b1.lt
  go_wp2
  refine bodyPost_ret (v := .tuple #[.agg #[.int .i64 (Y).x0, .int .i64 (Y).x1, .int .i64 (Y).y0, .int .i64 (Y).y1, .int .i64 (Y).z0, .int .i64 (Y).z1], .int .i64 (Y).e]) (by simp [results, Tryz.results12, go_sem, y0, z0, y1, z1, y2, z2, y3, z3, y4, z4, y5, z5, lz]) rfl ⟨rfl, below6 hB (by omega) _ _ _ _ _ _⟩
def vScaleR (a0 a1 a2 a3 a4 a5 l h : Int) : VR := vTold (fo (fo (ckV a0 a1 a2 a3 a4 a5) (ckV l h l h l h)) (vPairR sMulR a0 a1 a2 a3 a4 a5 l h l h l h).e) (vPairR sMulR a0 a1 a2 a3 a4 a5 l h l h l h)
set_option maxRecDepth 100000 in
set_option maxHeartbeats 4000000 in
theorem pScale_any (a0 a1 a2 a3 a4 a5 l h : Int) (w : World) :
    Calls Tryz.prog 17 #[.agg #[.int .i64 a0, .int .i64 a1, .int .i64 a2, .int .i64 a3, .int .i64 a4, .int .i64 a5], .agg #[.int .i64 l, .int .i64 h]] w fun r w' => r = .returned (.tuple #[.agg #[.int .i64 (vScaleR a0 a1 a2 a3 a4 a5 l h).x0, .int .i64 (vScaleR a0 a1 a2 a3 a4 a5 l h).x1, .int .i64 (vScaleR a0 a1 a2 a3 a4 a5 l h).y0, .int .i64 (vScaleR a0 a1 a2 a3 a4 a5 l h).y1, .int .i64 (vScaleR a0 a1 a2 a3 a4 a5 l h).z0, .int .i64 (vScaleR a0 a1 a2 a3 a4 a5 l h).z1], .int .i64 (vScaleR a0 a1 a2 a3 a4 a5 l h).e]) ∧ Below w.heap.size w w' := by
  simp only [vScaleR]
  have hp := fun c e w h' => pairs_mul c e a0 a1 a2 a3 a4 a5 l h l h l h w h'
  generalize vPairR sMulR a0 a1 a2 a3 a4 a5 l h l h l h = q at *
  have hcal := fun q w hh => calc2_any q 25 a0 a1 a2 a3 a4 a5 l h l h l h w hh
  generalize fo (ckV a0 a1 a2 a3 a4 a5) (ckV l h l h l h) = k at *
  have hch := fun c w hh => checkedV_any c (fo k q.e) q w hh
  generalize vTold (fo k q.e) q = Y at *
  have b0 := (((Bn.new w #[.int .i64 a0, .int .i64 a1, .int .i64 a2, .int .i64 a3, .int .i64 a4, .int .i64 a5] 25).alloc (.cells #[.int .i64 l, .int .i64 h] 23)).alloc (.cells #[.int .i64 0, .int .i64 0, .int .i64 0, .int .i64 0, .int .i64 0, .int .i64 0] 25))
  have b1 := ((Bn.new (w.alloc (.cells #[.int .i64 a0, .int .i64 a1, .int .i64 a2, .int .i64 a3, .int .i64 a4, .int .i64 a5] 25)) #[.int .i64 l, .int .i64 h] 23).alloc (.cells #[.int .i64 0, .int .i64 0, .int .i64 0, .int .i64 0, .int .i64 0, .int .i64 0] 25))
  rw [show (w.alloc (.cells #[.int .i64 a0, .int .i64 a1, .int .i64 a2, .int .i64 a3, .int .i64 a4, .int .i64 a5] 25)).heap.size = w.heap.size + 1 by simp] at b1
  have b2 := (Bn.new ((w.alloc (.cells #[.int .i64 a0, .int .i64 a1, .int .i64 a2, .int .i64 a3, .int .i64 a4, .int .i64 a5] 25)).alloc (.cells #[.int .i64 l, .int .i64 h] 23)) #[.int .i64 0, .int .i64 0, .int .i64 0, .int .i64 0, .int .i64 0, .int .i64 0] 25)
  rw [show ((w.alloc (.cells #[.int .i64 a0, .int .i64 a1, .int .i64 a2, .int .i64 a3, .int .i64 a4, .int .i64 a5] 25)).alloc (.cells #[.int .i64 l, .int .i64 h] 23)).heap.size = w.heap.size + 2 by simp] at b2
  have hB : Below w.heap.size w (((w.alloc (.cells #[.int .i64 a0, .int .i64 a1, .int .i64 a2, .int .i64 a3, .int .i64 a4, .int .i64 a5] 25)).alloc (.cells #[.int .i64 l, .int .i64 h] 23)).alloc (.cells #[.int .i64 0, .int .i64 0, .int .i64 0, .int .i64 0, .int .i64 0, .int .i64 0] 25)) := by (repeat (first | with_reducible exact Below.refl _ _ | with_reducible assumption | refine Below.alloc ?_ (by (try simp); try omega) _ | refine Below.setCell ?_ (by (try simp); try omega) _ | refine below_drewN ?_ _ | refine Below.drew ?_ | (with_reducible refine Below.trans ?_ (Below.mono (by assumption) (by (try simp); try omega)))))
  go_enter Tryz.func17, Tryz.ntmps17
  go_wp2_with fail
  go_at_call 48
  refine (threeOf_any l h _).mono ?_
  rintro r u0 ⟨rfl, hb⟩
  replace b0 := b0.keep hb
  replace b1 := b1.keep hb
  replace b2 := b2.keep hb
  replace hB := hB.trans (hb.mono hB.size)
  have hs0 := hb.size
  clear hb
  have hs1 : w.heap.size + 2 < u0.heap.size := b2.lt
  have b3 := Bn.new u0 #[.int .i64 l, .int .i64 h, .int .i64 l, .int .i64 h, .int .i64 l, .int .i64 h] 25
  replace b0 := b0.alloc (.cells #[.int .i64 l, .int .i64 h, .int .i64 l, .int .i64 h, .int .i64 l, .int .i64 h] 25)
  replace b2 := b2.alloc (.cells #[.int .i64 l, .int .i64 h, .int .i64 l, .int .i64 h, .int .i64 l, .int .i64 h] 25)
  replace hB := hB.alloc hB.size (.cells #[.int .i64 l, .int .i64 h, .int .i64 l, .int .i64 h, .int .i64 l, .int .i64 h] 25)
  clear b1
  have e0 := b0.cell 0 _ rfl
  have e1 := b0.cell 1 _ rfl
  have e2 := b0.cell 2 _ rfl
  have e3 := b0.cell 3 _ rfl
  have e4 := b0.cell 4 _ rfl
  have e5 := b0.cell 5 _ rfl
  have lb0 := b0.lt
  have hq := Bn.new (u0.alloc (.cells #[.int .i64 l, .int .i64 h, .int .i64 l, .int .i64 h, .int .i64 l, .int .i64 h] 25)) #[.int .i64 a0, .int .i64 a1, .int .i64 a2, .int .i64 a3, .int .i64 a4, .int .i64 a5, .int .i64 l, .int .i64 h, .int .i64 l, .int .i64 h, .int .i64 l, .int .i64 h] 25
  rw [show (u0.alloc (.cells #[.int .i64 l, .int .i64 h, .int .i64 l, .int .i64 h, .int .i64 l, .int .i64 h] 25)).heap.size = u0.heap.size + 1 by simp] at hq
  go_wp2_with fail
  go_at_call 35
  refine (hcal _ _ hq).mono ?_
  rintro r u1 ⟨c, rfl, hC, hc, hb⟩
  replace b0 := (b0.alloc (.cells #[.int .i64 a0, .int .i64 a1, .int .i64 a2, .int .i64 a3, .int .i64 a4, .int .i64 a5, .int .i64 l, .int .i64 h, .int .i64 l, .int .i64 h, .int .i64 l, .int .i64 h] 25)).keep hb
  replace b2 := (b2.alloc (.cells #[.int .i64 a0, .int .i64 a1, .int .i64 a2, .int .i64 a3, .int .i64 a4, .int .i64 a5, .int .i64 l, .int .i64 h, .int .i64 l, .int .i64 h, .int .i64 l, .int .i64 h] 25)).keep hb
  replace b3 := (b3.alloc (.cells #[.int .i64 a0, .int .i64 a1, .int .i64 a2, .int .i64 a3, .int .i64 a4, .int .i64 a5, .int .i64 l, .int .i64 h, .int .i64 l, .int .i64 h, .int .i64 l, .int .i64 h] 25)).keep hb
  replace hB := (hB.alloc hB.size (.cells #[.int .i64 a0, .int .i64 a1, .int .i64 a2, .int .i64 a3, .int .i64 a4, .int .i64 a5, .int .i64 l, .int .i64 h, .int .i64 l, .int .i64 h, .int .i64 l, .int .i64 h] 25)).trans (hb.mono (hB.alloc hB.size (.cells #[.int .i64 a0, .int .i64 a1, .int .i64 a2, .int .i64 a3, .int .i64 a4, .int .i64 a5, .int .i64 l, .int .i64 h, .int .i64 l, .int .i64 h, .int .i64 l, .int .i64 h] 25)).size)
  have hc2 : u0.heap.size < c := by simp at hc; omega
  clear hb hq hc e0 e1 e2 e3 e4 e5 lb0 hs0
  have e0 := b0.cell 0 _ rfl
  have e1 := b0.cell 1 _ rfl
  have e2 := b0.cell 2 _ rfl
  have e3 := b0.cell 3 _ rfl
  have e4 := b0.cell 4 _ rfl
  have e5 := b0.cell 5 _ rfl
  have f0 := b3.cell 0 _ rfl
  have f1 := b3.cell 1 _ rfl
  have f2 := b3.cell 2 _ rfl
  have f3 := b3.cell 3 _ rfl
  have f4 := b3.cell 4 _ rfl
  have f5 := b3.cell 5 _ rfl
  have lb0 := b0.lt
  have lb3 := b3.lt
  go_wp2_with fail
  go_at_call 37
  refine (hp c k _ hC).mono ?_
  rintro r u2 ⟨rfl, hC2, hk⟩
  replace b2 := b2.ke (by omega) hk
  replace hB := hk.below hB (by omega) hB.size
  clear hk hC
  have hC := hC2
  clear hC2
  clear e0 f0 e1 f1 e2 f2 e3 f3 e4 f4 e5 f5 lb0 lb3 b0 b3
  go_wp2_with fail
  go_at_call 36
  refine (hch c _ hC).mono ?_
  rintro r u3 ⟨rfl, hb⟩
  replace b2 := b2.keep hb
  replace hB := hB.trans (hb.mono hB.size)
  clear hb hC
  have y0 := b2.cell 0 _ rfl
  have y1 := b2.cell 1 _ rfl
  have y2 := b2.cell 2 _ rfl
  have y3 := b2.cell 3 _ rfl
  have y4 := b2.cell 4 _ rfl
  have y5 := b2.cell 5 _ rfl
  have z0 := b2.f 0
  have z1 := b2.f 1
  have z2 := b2.f 2
  have z3 := b2.f 3
  have z4 := b2.f 4
  have z5 := b2.f 5
  have lz := b2.lt
  go_wp2
  refine bodyPost_ret (v := .tuple #[.agg #[.int .i64 (Y).x0, .int .i64 (Y).x1, .int .i64 (Y).y0, .int .i64 (Y).y1, .int .i64 (Y).z0, .int .i64 (Y).z1], .int .i64 (Y).e]) (by simp [results, Tryz.results17, go_sem, y0, z0, y1, z1, y2, z2, y3, z3, y4, z4, y5, z5, lz]) rfl ⟨rfl, below6 hB (by omega) _ _ _ _ _ _⟩
def vDotQ (q : VR) (k : Int) : Int × Int × Int := sTold (fo (fo k q.e) (vNormS q).2.2) (vNormS q).1 (vNormS q).2.1
def vDotR (a0 a1 a2 a3 a4 a5 d0 d1 d2 d3 d4 d5 : Int) : Int × Int × Int := vDotQ (vPairR sMulR a0 a1 a2 a3 a4 a5 d0 d1 d2 d3 d4 d5) (fo (ckV a0 a1 a2 a3 a4 a5) (ckV d0 d1 d2 d3 d4 d5))
set_option maxRecDepth 100000 in
set_option maxHeartbeats 4000000 in
theorem pDot_any (a0 a1 a2 a3 a4 a5 d0 d1 d2 d3 d4 d5 : Int) (w : World) :
    Calls Tryz.prog 19 #[.agg #[.int .i64 a0, .int .i64 a1, .int .i64 a2, .int .i64 a3, .int .i64 a4, .int .i64 a5], .agg #[.int .i64 d0, .int .i64 d1, .int .i64 d2, .int .i64 d3, .int .i64 d4, .int .i64 d5]] w fun r w' => r = .returned (.tuple #[.agg #[.int .i64 (vDotR a0 a1 a2 a3 a4 a5 d0 d1 d2 d3 d4 d5).1, .int .i64 (vDotR a0 a1 a2 a3 a4 a5 d0 d1 d2 d3 d4 d5).2.1], .int .i64 (vDotR a0 a1 a2 a3 a4 a5 d0 d1 d2 d3 d4 d5).2.2]) ∧ Below w.heap.size w w' := by
  simp only [vDotR]
  have hp := fun c e w h => pairs_mul c e a0 a1 a2 a3 a4 a5 d0 d1 d2 d3 d4 d5 w h
  generalize vPairR sMulR a0 a1 a2 a3 a4 a5 d0 d1 d2 d3 d4 d5 = q at *
  simp only [vDotQ]
  have hm := fun c e w h => vSum_any c e q.x0 q.x1 q.y0 q.y1 q.z0 q.z1 w h
  rw [show vSumR q.x0 q.x1 q.y0 q.y1 q.z0 q.z1 = vNormS q from rfl] at hm
  generalize vNormS q = s at *
  have hcal := fun q w hh => calc2_any q 25 a0 a1 a2 a3 a4 a5 d0 d1 d2 d3 d4 d5 w hh
  generalize fo (ckV a0 a1 a2 a3 a4 a5) (ckV d0 d1 d2 d3 d4 d5) = k at *
  have hch := fun c w hh => checkedS_any c (fo (fo k q.e) s.2.2) s.1 s.2.1 w hh
  generalize sTold (fo (fo k q.e) s.2.2) s.1 s.2.1 = Y at *
  have b0 := (((Bn.new w #[.int .i64 a0, .int .i64 a1, .int .i64 a2, .int .i64 a3, .int .i64 a4, .int .i64 a5] 25).alloc (.cells #[.int .i64 d0, .int .i64 d1, .int .i64 d2, .int .i64 d3, .int .i64 d4, .int .i64 d5] 25)).alloc (.cells #[.int .i64 0, .int .i64 0] 23))
  have b1 := ((Bn.new (w.alloc (.cells #[.int .i64 a0, .int .i64 a1, .int .i64 a2, .int .i64 a3, .int .i64 a4, .int .i64 a5] 25)) #[.int .i64 d0, .int .i64 d1, .int .i64 d2, .int .i64 d3, .int .i64 d4, .int .i64 d5] 25).alloc (.cells #[.int .i64 0, .int .i64 0] 23))
  rw [show (w.alloc (.cells #[.int .i64 a0, .int .i64 a1, .int .i64 a2, .int .i64 a3, .int .i64 a4, .int .i64 a5] 25)).heap.size = w.heap.size + 1 by simp] at b1
  have b2 := (Bn.new ((w.alloc (.cells #[.int .i64 a0, .int .i64 a1, .int .i64 a2, .int .i64 a3, .int .i64 a4, .int .i64 a5] 25)).alloc (.cells #[.int .i64 d0, .int .i64 d1, .int .i64 d2, .int .i64 d3, .int .i64 d4, .int .i64 d5] 25)) #[.int .i64 0, .int .i64 0] 23)
  rw [show ((w.alloc (.cells #[.int .i64 a0, .int .i64 a1, .int .i64 a2, .int .i64 a3, .int .i64 a4, .int .i64 a5] 25)).alloc (.cells #[.int .i64 d0, .int .i64 d1, .int .i64 d2, .int .i64 d3, .int .i64 d4, .int .i64 d5] 25)).heap.size = w.heap.size + 2 by simp] at b2
  have hB : Below w.heap.size w (((w.alloc (.cells #[.int .i64 a0, .int .i64 a1, .int .i64 a2, .int .i64 a3, .int .i64 a4, .int .i64 a5] 25)).alloc (.cells #[.int .i64 d0, .int .i64 d1, .int .i64 d2, .int .i64 d3, .int .i64 d4, .int .i64 d5] 25)).alloc (.cells #[.int .i64 0, .int .i64 0] 23)) := by (repeat (first | with_reducible exact Below.refl _ _ | with_reducible assumption | refine Below.alloc ?_ (by (try simp); try omega) _ | refine Below.setCell ?_ (by (try simp); try omega) _ | refine below_drewN ?_ _ | refine Below.drew ?_ | (with_reducible refine Below.trans ?_ (Below.mono (by assumption) (by (try simp); try omega)))))
  go_enter Tryz.func19, Tryz.ntmps19
  have hq := Bn.new (((w.alloc (.cells #[.int .i64 a0, .int .i64 a1, .int .i64 a2, .int .i64 a3, .int .i64 a4, .int .i64 a5] 25)).alloc (.cells #[.int .i64 d0, .int .i64 d1, .int .i64 d2, .int .i64 d3, .int .i64 d4, .int .i64 d5] 25)).alloc (.cells #[.int .i64 0, .int .i64 0] 23)) #[.int .i64 a0, .int .i64 a1, .int .i64 a2, .int .i64 a3, .int .i64 a4, .int .i64 a5, .int .i64 d0, .int .i64 d1, .int .i64 d2, .int .i64 d3, .int .i64 d4, .int .i64 d5] 25
  rw [show (((w.alloc (.cells #[.int .i64 a0, .int .i64 a1, .int .i64 a2, .int .i64 a3, .int .i64 a4, .int .i64 a5] 25)).alloc (.cells #[.int .i64 d0, .int .i64 d1, .int .i64 d2, .int .i64 d3, .int .i64 d4, .int .i64 d5] 25)).alloc (.cells #[.int .i64 0, .int .i64 0] 23)).heap.size = w.heap.size + 3 by simp] at hq
  go_wp2_with fail
  go_at_call 35
  refine (hcal _ _ hq).mono ?_
  rintro r u1 ⟨c, rfl, hC, hc, hb⟩
  replace b0 := (b0.alloc (.cells #[.int .i64 a0, .int .i64 a1, .int .i64 a2, .int .i64 a3, .int .i64 a4, .int .i64 a5, .int .i64 d0, .int .i64 d1, .int .i64 d2, .int .i64 d3, .int .i64 d4, .int .i64 d5] 25)).keep hb
  replace b1 := (b1.alloc (.cells #[.int .i64 a0, .int .i64 a1, .int .i64 a2, .int .i64 a3, .int .i64 a4, .int .i64 a5, .int .i64 d0, .int .i64 d1, .int .i64 d2, .int .i64 d3, .int .i64 d4, .int .i64 d5] 25)).keep hb
  replace b2 := (b2.alloc (.cells #[.int .i64 a0, .int .i64 a1, .int .i64 a2, .int .i64 a3, .int .i64 a4, .int .i64 a5, .int .i64 d0, .int .i64 d1, .int .i64 d2, .int .i64 d3, .int .i64 d4, .int .i64 d5] 25)).keep hb
  replace hB := (hB.alloc hB.size (.cells #[.int .i64 a0, .int .i64 a1, .int .i64 a2, .int .i64 a3, .int .i64 a4, .int .i64 a5, .int .i64 d0, .int .i64 d1, .int .i64 d2, .int .i64 d3, .int .i64 d4, .int .i64 d5] 25)).trans (hb.mono (hB.alloc hB.size (.cells #[.int .i64 a0, .int .i64 a1, .int .i64 a2, .int .i64 a3, .int .i64 a4, .int .i64 a5, .int .i64 d0, .int .i64 d1, .int .i64 d2, .int .i64 d3, .int .i64 d4, .int .i64 d5] 25)).size)
  have hc2 : w.heap.size + 3 < c := by simp at hc; omega
  clear hb hq hc
  have e0 := b0.cell 0 _ rfl
  have e1 := b0.cell 1 _ rfl
  have e2 := b0.cell 2 _ rfl
  have e3 := b0.cell 3 _ rfl
  have e4 := b0.cell 4 _ rfl
  have e5 := b0.cell 5 _ rfl
  have f0 := b1.cell 0 _ rfl
  have f1 := b1.cell 1 _ rfl
  have f2 := b1.cell 2 _ rfl
  have f3 := b1.cell 3 _ rfl
  have f4 := b1.cell 4 _ rfl
  have f5 := b1.cell 5 _ rfl
  have lb0 := b0.lt
  have lb1 := b1.lt
  go_wp2_with fail
  go_at_call 37
  refine (hp c k _ hC).mono ?_
  rintro r u2 ⟨rfl, hC2, hk⟩
  replace b2 := b2.ke (by omega) hk
  replace hB := hk.below hB (by omega) hB.size
  clear hk hC
  have hC := hC2
  clear hC2
  clear e0 f0 e1 f1 e2 f2 e3 f3 e4 f4 e5 f5 lb0 lb1 b0 b1
  go_wp2_with fail
  go_at_call 53
  refine (hm c (fo k q.e) _ hC).mono ?_
  rintro r u2 ⟨rfl, hC2, hk⟩
  replace b2 := b2.ke (by omega) hk
  replace hB := hk.below hB (by omega) hB.size
  clear hk hC
  have hC := hC2
  clear hC2
  go_wp2_with fail
  go_at_call 52
  refine (hch c _ hC).mono ?_
  rintro r u3 ⟨rfl, hb⟩
  replace b2 := b2.keep hb
  replace hB := hB.trans (hb.mono hB.size)
  clear hb hC
  have y0 := b2.cell 0 _ rfl
  have y1 := b2.cell 1 _ rfl
  have z0 := b2.f 0
  have z1 := b2.f 1
  have lz := b2.lt
  go_wp2
  refine bodyPost_ret (v := .tuple #[.agg #[.int .i64 (Y).1, .int .i64 (Y).2.1], .int .i64 (Y).2.2]) (by simp [results, Tryz.results19, go_sem, y0, z0, y1, z1, lz]) rfl ⟨rfl, below2 hB (by omega) _ _⟩
def vNormP (a0 a1 a2 a3 a4 a5 : Int) : Int × Int × Int := sTold (fo (ckV a0 a1 a2 a3 a4 a5) (vNormR a0 a1 a2 a3 a4 a5).2.2) (vNormR a0 a1 a2 a3 a4 a5).1 (vNormR a0 a1 a2 a3 a4 a5).2.1
set_option maxRecDepth 100000 in
set_option maxHeartbeats 4000000 in
theorem pNorm_any (a0 a1 a2 a3 a4 a5 : Int) (w : World) :
    Calls Tryz.prog 23 #[.agg #[.int .i64 a0, .int .i64 a1, .int .i64 a2, .int .i64 a3, .int .i64 a4, .int .i64 a5]] w fun r w' => r = .returned (.tuple #[.agg #[.int .i64 (vNormP a0 a1 a2 a3 a4 a5).1, .int .i64 (vNormP a0 a1 a2 a3 a4 a5).2.1], .int .i64 (vNormP a0 a1 a2 a3 a4 a5).2.2]) ∧ Below w.heap.size w w' := by
  simp only [vNormP]
  have hp := fun c e w h => vNorm_any c e a0 a1 a2 a3 a4 a5 w h
  generalize vNormR a0 a1 a2 a3 a4 a5 = s at *
  have hcal := fun q w hh => calc1_any q 25 a0 a1 a2 a3 a4 a5 w hh
  generalize ckV a0 a1 a2 a3 a4 a5 = k at *
  have hch := fun c w hh => checkedS_any c (fo k s.2.2) s.1 s.2.1 w hh
  generalize sTold (fo k s.2.2) s.1 s.2.1 = Y at *
  have b0 := ((Bn.new w #[.int .i64 a0, .int .i64 a1, .int .i64 a2, .int .i64 a3, .int .i64 a4, .int .i64 a5] 25).alloc (.cells #[.int .i64 0, .int .i64 0] 23))
  have b1 := (Bn.new (w.alloc (.cells #[.int .i64 a0, .int .i64 a1, .int .i64 a2, .int .i64 a3, .int .i64 a4, .int .i64 a5] 25)) #[.int .i64 0, .int .i64 0] 23)
  rw [show (w.alloc (.cells #[.int .i64 a0, .int .i64 a1, .int .i64 a2, .int .i64 a3, .int .i64 a4, .int .i64 a5] 25)).heap.size = w.heap.size + 1 by simp] at b1
  have hB : Below w.heap.size w ((w.alloc (.cells #[.int .i64 a0, .int .i64 a1, .int .i64 a2, .int .i64 a3, .int .i64 a4, .int .i64 a5] 25)).alloc (.cells #[.int .i64 0, .int .i64 0] 23)) := by (repeat (first | with_reducible exact Below.refl _ _ | with_reducible assumption | refine Below.alloc ?_ (by (try simp); try omega) _ | refine Below.setCell ?_ (by (try simp); try omega) _ | refine below_drewN ?_ _ | refine Below.drew ?_ | (with_reducible refine Below.trans ?_ (Below.mono (by assumption) (by (try simp); try omega)))))
  go_enter Tryz.func23, Tryz.ntmps23
  have hq := Bn.new ((w.alloc (.cells #[.int .i64 a0, .int .i64 a1, .int .i64 a2, .int .i64 a3, .int .i64 a4, .int .i64 a5] 25)).alloc (.cells #[.int .i64 0, .int .i64 0] 23)) #[.int .i64 a0, .int .i64 a1, .int .i64 a2, .int .i64 a3, .int .i64 a4, .int .i64 a5] 25
  rw [show ((w.alloc (.cells #[.int .i64 a0, .int .i64 a1, .int .i64 a2, .int .i64 a3, .int .i64 a4, .int .i64 a5] 25)).alloc (.cells #[.int .i64 0, .int .i64 0] 23)).heap.size = w.heap.size + 2 by simp] at hq
  go_wp2_with fail
  go_at_call 35
  refine (hcal _ _ hq).mono ?_
  rintro r u1 ⟨c, rfl, hC, hc, hb⟩
  replace b0 := (b0.alloc (.cells #[.int .i64 a0, .int .i64 a1, .int .i64 a2, .int .i64 a3, .int .i64 a4, .int .i64 a5] 25)).keep hb
  replace b1 := (b1.alloc (.cells #[.int .i64 a0, .int .i64 a1, .int .i64 a2, .int .i64 a3, .int .i64 a4, .int .i64 a5] 25)).keep hb
  replace hB := (hB.alloc hB.size (.cells #[.int .i64 a0, .int .i64 a1, .int .i64 a2, .int .i64 a3, .int .i64 a4, .int .i64 a5] 25)).trans (hb.mono (hB.alloc hB.size (.cells #[.int .i64 a0, .int .i64 a1, .int .i64 a2, .int .i64 a3, .int .i64 a4, .int .i64 a5] 25)).size)
  have hc2 : w.heap.size + 2 < c := by simp at hc; omega
  clear hb hq hc
  have e0 := b0.cell 0 _ rfl
  have e1 := b0.cell 1 _ rfl
  have e2 := b0.cell 2 _ rfl
  have e3 := b0.cell 3 _ rfl
  have e4 := b0.cell 4 _ rfl
  have e5 := b0.cell 5 _ rfl
  have lb0 := b0.lt
  go_wp2_with fail
  go_at_call 57
  refine (hp c k _ hC).mono ?_
  rintro r u2 ⟨rfl, hC2, hk⟩
  replace b1 := b1.ke (by omega) hk
  replace hB := hk.below hB (by omega) hB.size
  clear hk hC
  have hC := hC2
  clear hC2
  clear e0 e1 e2 e3 e4 e5 lb0 b0
  go_wp2_with fail
  go_at_call 52
  refine (hch c _ hC).mono ?_
  rintro r u3 ⟨rfl, hb⟩
  replace b1 := b1.keep hb
  replace hB := hB.trans (hb.mono hB.size)
  clear hb hC
  have y0 := b1.cell 0 _ rfl
  have y1 := b1.cell 1 _ rfl
  have z0 := b1.f 0
  have z1 := b1.f 1
  have lz := b1.lt
  go_wp2
  refine bodyPost_ret (v := .tuple #[.agg #[.int .i64 (Y).1, .int .i64 (Y).2.1], .int .i64 (Y).2.2]) (by simp [results, Tryz.results23, go_sem, y0, z0, y1, z1, lz]) rfl ⟨rfl, below2 hB (by omega) _ _⟩
end Go.Proofs.YtnfapdmbkpkkdaaGreat
