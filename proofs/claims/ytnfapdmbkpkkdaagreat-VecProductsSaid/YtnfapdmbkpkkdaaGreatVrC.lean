/-
  The reference of layer 6: Dot, Cross.
-/
import Derived.Test.YtnfapdmbkpkkdaaGreatVrB
namespace Go.Proofs.YtnfapdmbkpkkdaaGreat
open Go.RowKit

set_option maxRecDepth 100000 in
set_option maxHeartbeats 4000000 in
theorem rDot_ok (a0 a1 a2 a3 a4 a5 d0 d1 d2 d3 d4 d5 : Int) (ka : ckV a0 a1 a2 a3 a4 a5 = 0) (kd : ckV d0 d1 d2 d3 d4 d5 = 0) (w : World) :
    Calls Tryz.prog 20 #[.agg #[.int .i64 a0, .int .i64 a1, .int .i64 a2, .int .i64 a3, .int .i64 a4, .int .i64 a5], .agg #[.int .i64 d0, .int .i64 d1, .int .i64 d2, .int .i64 d3, .int .i64 d4, .int .i64 d5]] w fun r w' => r = .returned (.tuple #[.agg #[.int .i64 (vDotR a0 a1 a2 a3 a4 a5 d0 d1 d2 d3 d4 d5).1, .int .i64 (vDotR a0 a1 a2 a3 a4 a5 d0 d1 d2 d3 d4 d5).2.1], .int .i64 (vDotR a0 a1 a2 a3 a4 a5 d0 d1 d2 d3 d4 d5).2.2]) ∧ Below w.heap.size w w' := by
  have g1 := fun w => rRight6_ok a0 a1 a2 a3 a4 a5 ka w
  have g2 := fun w => rRight6_ok d0 d1 d2 d3 d4 d5 kd w
  rw [show vDotR a0 a1 a2 a3 a4 a5 d0 d1 d2 d3 d4 d5 = sTold (fo (fo (sMulR a0 a1 d0 d1).2.2 (fo (sMulR a2 a3 d2 d3).2.2 (sMulR a4 a5 d4 d5).2.2)) (vSumR (sMulR a0 a1 d0 d1).1 (sMulR a0 a1 d0 d1).2.1 (sMulR a2 a3 d2 d3).1 (sMulR a2 a3 d2 d3).2.1 (sMulR a4 a5 d4 d5).1 (sMulR a4 a5 d4 d5).2.1).2.2) (vSumR (sMulR a0 a1 d0 d1).1 (sMulR a0 a1 d0 d1).2.1 (sMulR a2 a3 d2 d3).1 (sMulR a2 a3 d2 d3).2.1 (sMulR a4 a5 d4 d5).1 (sMulR a4 a5 d4 d5).2.1).1 (vSumR (sMulR a0 a1 d0 d1).1 (sMulR a0 a1 d0 d1).2.1 (sMulR a2 a3 d2 d3).1 (sMulR a2 a3 d2 d3).2.1 (sMulR a4 a5 d4 d5).1 (sMulR a4 a5 d4 d5).2.1).2.1 from by unfold vDotR vDotQ vNormS vPairR; rw [ka, kd]; rfl]
  clear ka kd
  have h0 := fun w => rMul_any a0 a1 d0 d1 w
  generalize sMulR a0 a1 d0 d1 = m0 at *
  have h1 := fun w => rMul_any a2 a3 d2 d3 w
  generalize sMulR a2 a3 d2 d3 = m1 at *
  have h2 := fun w => rMul_any a4 a5 d4 d5 w
  generalize sMulR a4 a5 d4 d5 = m2 at *
  have ht := fun w => rThree_any m0.1 m0.2.1 m1.1 m1.2.1 m2.1 m2.2.1 m0.2.2 m1.2.2 m2.2.2 w
  generalize sTold (fo (fo m0.2.2 (fo m1.2.2 m2.2.2)) (vSumR m0.1 m0.2.1 m1.1 m1.2.1 m2.1 m2.2.1).2.2) (vSumR m0.1 m0.2.1 m1.1 m1.2.1 m2.1 m2.2.1).1 (vSumR m0.1 m0.2.1 m1.1 m1.2.1 m2.1 m2.2.1).2.1 = t at *
  have bX0 := Bn.new w #[.int .i64 a0, .int .i64 a1, .int .i64 a2, .int .i64 a3, .int .i64 a4, .int .i64 a5] 25
  replace bX0 := bX0.alloc (.cells #[.int .i64 d0, .int .i64 d1, .int .i64 d2, .int .i64 d3, .int .i64 d4, .int .i64 d5] 25)
  replace bX0 := bX0.alloc (.cells #[.int .i64 0, .int .i64 0] 23)
  have bX1 := Bn.new (w.alloc (.cells #[.int .i64 a0, .int .i64 a1, .int .i64 a2, .int .i64 a3, .int .i64 a4, .int .i64 a5] 25)) #[.int .i64 d0, .int .i64 d1, .int .i64 d2, .int .i64 d3, .int .i64 d4, .int .i64 d5] 25
  rw [show (w.alloc (.cells #[.int .i64 a0, .int .i64 a1, .int .i64 a2, .int .i64 a3, .int .i64 a4, .int .i64 a5] 25)).heap.size = w.heap.size + 1 by simp] at bX1
  replace bX1 := bX1.alloc (.cells #[.int .i64 0, .int .i64 0] 23)
  have bZ := Bn.new ((w.alloc (.cells #[.int .i64 a0, .int .i64 a1, .int .i64 a2, .int .i64 a3, .int .i64 a4, .int .i64 a5] 25)).alloc (.cells #[.int .i64 d0, .int .i64 d1, .int .i64 d2, .int .i64 d3, .int .i64 d4, .int .i64 d5] 25)) #[.int .i64 0, .int .i64 0] 23
  rw [show ((w.alloc (.cells #[.int .i64 a0, .int .i64 a1, .int .i64 a2, .int .i64 a3, .int .i64 a4, .int .i64 a5] 25)).alloc (.cells #[.int .i64 d0, .int .i64 d1, .int .i64 d2, .int .i64 d3, .int .i64 d4, .int .i64 d5] 25)).heap.size = w.heap.size + 2 by simp] at bZ
  have hB : Below w.heap.size w (((w.alloc (.cells #[.int .i64 a0, .int .i64 a1, .int .i64 a2, .int .i64 a3, .int .i64 a4, .int .i64 a5] 25)).alloc (.cells #[.int .i64 d0, .int .i64 d1, .int .i64 d2, .int .i64 d3, .int .i64 d4, .int .i64 d5] 25)).alloc (.cells #[.int .i64 0, .int .i64 0] 23)) := by (repeat (first | with_reducible exact Below.refl _ _ | with_reducible assumption | refine Below.alloc ?_ (by (try simp); try omega) _ | refine Below.setCell ?_ (by (try simp); try omega) _ | refine below_drewN ?_ _ | refine Below.drew ?_ | (with_reducible refine Below.trans ?_ (Below.mono (by assumption) (by (try simp); try omega)))))
  generalize hv : (((w.alloc (.cells #[.int .i64 a0, .int .i64 a1, .int .i64 a2, .int .i64 a3, .int .i64 a4, .int .i64 a5] 25)).alloc (.cells #[.int .i64 d0, .int .i64 d1, .int .i64 d2, .int .i64 d3, .int .i64 d4, .int .i64 d5] 25)).alloc (.cells #[.int .i64 0, .int .i64 0] 23)) = v0 at *
  generalize hn : w.heap.size = n at *
  have cX00 : v0.cell? ⟨n, 0, none⟩ = some (.int .i64 a0) := bX0.cell 0 _ rfl
  have cX01 : v0.cell? ⟨n, 1, none⟩ = some (.int .i64 a1) := bX0.cell 1 _ rfl
  have cX02 : v0.cell? ⟨n, 2, none⟩ = some (.int .i64 a2) := bX0.cell 2 _ rfl
  have cX03 : v0.cell? ⟨n, 3, none⟩ = some (.int .i64 a3) := bX0.cell 3 _ rfl
  have cX04 : v0.cell? ⟨n, 4, none⟩ = some (.int .i64 a4) := bX0.cell 4 _ rfl
  have cX05 : v0.cell? ⟨n, 5, none⟩ = some (.int .i64 a5) := bX0.cell 5 _ rfl
  have kX0 := bX0.lt
  subst hv
  subst hn
  go_enter Tryz.func20, Tryz.ntmps20
  go_wp2_with fail
  go_at_call 39
  refine (g1 _).mono ?_
  rintro r u1 ⟨rfl, hb⟩
  replace bX0 := bX0.keep hb
  replace bX1 := bX1.keep hb
  replace bZ := bZ.keep hb
  replace hB := hB.trans (hb.mono hB.size)
  clear hb cX00 cX01 cX02 cX03 cX04 cX05 kX0
  generalize hn : w.heap.size = n at *
  have cX10 : u1.cell? ⟨n + 1, 0, none⟩ = some (.int .i64 d0) := bX1.cell 0 _ rfl
  have cX11 : u1.cell? ⟨n + 1, 1, none⟩ = some (.int .i64 d1) := bX1.cell 1 _ rfl
  have cX12 : u1.cell? ⟨n + 1, 2, none⟩ = some (.int .i64 d2) := bX1.cell 2 _ rfl
  have cX13 : u1.cell? ⟨n + 1, 3, none⟩ = some (.int .i64 d3) := bX1.cell 3 _ rfl
  have cX14 : u1.cell? ⟨n + 1, 4, none⟩ = some (.int .i64 d4) := bX1.cell 4 _ rfl
  have cX15 : u1.cell? ⟨n + 1, 5, none⟩ = some (.int .i64 d5) := bX1.cell 5 _ rfl
  have kX1 := bX1.lt
  go_wp2_with fail
  go_at_call 39
  refine (g2 _).mono ?_
  rintro r u2 ⟨rfl, hb⟩
  replace bX0 := bX0.keep hb
  replace bX1 := bX1.keep hb
  replace bZ := bZ.keep hb
  replace hB := hB.trans (hb.mono (by have := hB.size; omega))
  clear hb cX10 cX11 cX12 cX13 cX14 cX15 kX1
  have cX00 : u2.cell? ⟨n, 0, none⟩ = some (.int .i64 a0) := bX0.cell 0 _ rfl
  have cX01 : u2.cell? ⟨n, 1, none⟩ = some (.int .i64 a1) := bX0.cell 1 _ rfl
  have cX02 : u2.cell? ⟨n, 2, none⟩ = some (.int .i64 a2) := bX0.cell 2 _ rfl
  have cX03 : u2.cell? ⟨n, 3, none⟩ = some (.int .i64 a3) := bX0.cell 3 _ rfl
  have cX04 : u2.cell? ⟨n, 4, none⟩ = some (.int .i64 a4) := bX0.cell 4 _ rfl
  have cX05 : u2.cell? ⟨n, 5, none⟩ = some (.int .i64 a5) := bX0.cell 5 _ rfl
  have kX0 := bX0.lt
  have cX10 : u2.cell? ⟨n + 1, 0, none⟩ = some (.int .i64 d0) := bX1.cell 0 _ rfl
  have cX11 : u2.cell? ⟨n + 1, 1, none⟩ = some (.int .i64 d1) := bX1.cell 1 _ rfl
  have cX12 : u2.cell? ⟨n + 1, 2, none⟩ = some (.int .i64 d2) := bX1.cell 2 _ rfl
  have cX13 : u2.cell? ⟨n + 1, 3, none⟩ = some (.int .i64 d3) := bX1.cell 3 _ rfl
  have cX14 : u2.cell? ⟨n + 1, 4, none⟩ = some (.int .i64 d4) := bX1.cell 4 _ rfl
  have cX15 : u2.cell? ⟨n + 1, 5, none⟩ = some (.int .i64 d5) := bX1.cell 5 _ rfl
  have kX1 := bX1.lt
  go_wp2_with fail
  go_at_call 51
  refine (h0 _).mono ?_
  rintro r u3 ⟨rfl, hb⟩
  replace bX0 := bX0.keep hb
  replace bX1 := bX1.keep hb
  replace bZ := bZ.keep hb
  replace hB := hB.trans (hb.mono (by have := hB.size; omega))
  clear hb cX00 cX01 cX02 cX03 cX04 cX05 kX0 cX10 cX11 cX12 cX13 cX14 cX15 kX1
  have lX0 := bX0.lt
  have lX1 := bX1.lt
  have lZ := bZ.lt
  have hsz : n ≤ u3.heap.size := by have := hB.size; omega
  try clear oZ oB
  have oZ := bZ
  have oB := hB
  have bM0 := Bn.new u3 #[.int .i64 m0.1, .int .i64 m0.2.1] 23
  replace bX0 := bX0.alloc (.cells #[.int .i64 m0.1, .int .i64 m0.2.1] 23)
  replace bX1 := bX1.alloc (.cells #[.int .i64 m0.1, .int .i64 m0.2.1] 23)
  replace bZ := bZ.alloc (.cells #[.int .i64 m0.1, .int .i64 m0.2.1] 23)
  replace hB := hB.alloc hsz (.cells #[.int .i64 m0.1, .int .i64 m0.2.1] 23)
  have cX00 : (u3.alloc (.cells #[.int .i64 m0.1, .int .i64 m0.2.1] 23)).cell? ⟨n, 0, none⟩ = some (.int .i64 a0) := bX0.cell 0 _ rfl
  have cX01 : (u3.alloc (.cells #[.int .i64 m0.1, .int .i64 m0.2.1] 23)).cell? ⟨n, 1, none⟩ = some (.int .i64 a1) := bX0.cell 1 _ rfl
  have cX02 : (u3.alloc (.cells #[.int .i64 m0.1, .int .i64 m0.2.1] 23)).cell? ⟨n, 2, none⟩ = some (.int .i64 a2) := bX0.cell 2 _ rfl
  have cX03 : (u3.alloc (.cells #[.int .i64 m0.1, .int .i64 m0.2.1] 23)).cell? ⟨n, 3, none⟩ = some (.int .i64 a3) := bX0.cell 3 _ rfl
  have cX04 : (u3.alloc (.cells #[.int .i64 m0.1, .int .i64 m0.2.1] 23)).cell? ⟨n, 4, none⟩ = some (.int .i64 a4) := bX0.cell 4 _ rfl
  have cX05 : (u3.alloc (.cells #[.int .i64 m0.1, .int .i64 m0.2.1] 23)).cell? ⟨n, 5, none⟩ = some (.int .i64 a5) := bX0.cell 5 _ rfl
  have kX0 := bX0.lt
  have cX10 : (u3.alloc (.cells #[.int .i64 m0.1, .int .i64 m0.2.1] 23)).cell? ⟨n + 1, 0, none⟩ = some (.int .i64 d0) := bX1.cell 0 _ rfl
  have cX11 : (u3.alloc (.cells #[.int .i64 m0.1, .int .i64 m0.2.1] 23)).cell? ⟨n + 1, 1, none⟩ = some (.int .i64 d1) := bX1.cell 1 _ rfl
  have cX12 : (u3.alloc (.cells #[.int .i64 m0.1, .int .i64 m0.2.1] 23)).cell? ⟨n + 1, 2, none⟩ = some (.int .i64 d2) := bX1.cell 2 _ rfl
  have cX13 : (u3.alloc (.cells #[.int .i64 m0.1, .int .i64 m0.2.1] 23)).cell? ⟨n + 1, 3, none⟩ = some (.int .i64 d3) := bX1.cell 3 _ rfl
  have cX14 : (u3.alloc (.cells #[.int .i64 m0.1, .int .i64 m0.2.1] 23)).cell? ⟨n + 1, 4, none⟩ = some (.int .i64 d4) := bX1.cell 4 _ rfl
  have cX15 : (u3.alloc (.cells #[.int .i64 m0.1, .int .i64 m0.2.1] 23)).cell? ⟨n + 1, 5, none⟩ = some (.int .i64 d5) := bX1.cell 5 _ rfl
  have kX1 := bX1.lt
  go_wp2_with fail
  go_at_call 51
  refine (h1 _).mono ?_
  rintro r u4 ⟨rfl, hb⟩
  replace bX0 := bX0.keep hb
  replace bX1 := bX1.keep hb
  replace bZ := bZ.keep hb
  replace bM0 := bM0.keep hb
  replace hB := hB.trans (hb.mono (by have := hB.size; omega))
  clear hb cX00 cX01 cX02 cX03 cX04 cX05 kX0 cX10 cX11 cX12 cX13 cX14 cX15 kX1
  generalize u3.heap.size = gM0 at *
  clear hsz
  have lX0 := bX0.lt
  have lX1 := bX1.lt
  have lZ := bZ.lt
  have lM0 := bM0.lt
  have hsz : n ≤ u4.heap.size := by have := hB.size; omega
  try clear oZ oB
  have oZ := bZ
  have oB := hB
  have bM1 := Bn.new u4 #[.int .i64 m1.1, .int .i64 m1.2.1] 23
  replace bX0 := bX0.alloc (.cells #[.int .i64 m1.1, .int .i64 m1.2.1] 23)
  replace bX1 := bX1.alloc (.cells #[.int .i64 m1.1, .int .i64 m1.2.1] 23)
  replace bZ := bZ.alloc (.cells #[.int .i64 m1.1, .int .i64 m1.2.1] 23)
  replace bM0 := bM0.alloc (.cells #[.int .i64 m1.1, .int .i64 m1.2.1] 23)
  replace hB := hB.alloc hsz (.cells #[.int .i64 m1.1, .int .i64 m1.2.1] 23)
  have cX00 : (u4.alloc (.cells #[.int .i64 m1.1, .int .i64 m1.2.1] 23)).cell? ⟨n, 0, none⟩ = some (.int .i64 a0) := bX0.cell 0 _ rfl
  have cX01 : (u4.alloc (.cells #[.int .i64 m1.1, .int .i64 m1.2.1] 23)).cell? ⟨n, 1, none⟩ = some (.int .i64 a1) := bX0.cell 1 _ rfl
  have cX02 : (u4.alloc (.cells #[.int .i64 m1.1, .int .i64 m1.2.1] 23)).cell? ⟨n, 2, none⟩ = some (.int .i64 a2) := bX0.cell 2 _ rfl
  have cX03 : (u4.alloc (.cells #[.int .i64 m1.1, .int .i64 m1.2.1] 23)).cell? ⟨n, 3, none⟩ = some (.int .i64 a3) := bX0.cell 3 _ rfl
  have cX04 : (u4.alloc (.cells #[.int .i64 m1.1, .int .i64 m1.2.1] 23)).cell? ⟨n, 4, none⟩ = some (.int .i64 a4) := bX0.cell 4 _ rfl
  have cX05 : (u4.alloc (.cells #[.int .i64 m1.1, .int .i64 m1.2.1] 23)).cell? ⟨n, 5, none⟩ = some (.int .i64 a5) := bX0.cell 5 _ rfl
  have kX0 := bX0.lt
  have cX10 : (u4.alloc (.cells #[.int .i64 m1.1, .int .i64 m1.2.1] 23)).cell? ⟨n + 1, 0, none⟩ = some (.int .i64 d0) := bX1.cell 0 _ rfl
  have cX11 : (u4.alloc (.cells #[.int .i64 m1.1, .int .i64 m1.2.1] 23)).cell? ⟨n + 1, 1, none⟩ = some (.int .i64 d1) := bX1.cell 1 _ rfl
  have cX12 : (u4.alloc (.cells #[.int .i64 m1.1, .int .i64 m1.2.1] 23)).cell? ⟨n + 1, 2, none⟩ = some (.int .i64 d2) := bX1.cell 2 _ rfl
  have cX13 : (u4.alloc (.cells #[.int .i64 m1.1, .int .i64 m1.2.1] 23)).cell? ⟨n + 1, 3, none⟩ = some (.int .i64 d3) := bX1.cell 3 _ rfl
  have cX14 : (u4.alloc (.cells #[.int .i64 m1.1, .int .i64 m1.2.1] 23)).cell? ⟨n + 1, 4, none⟩ = some (.int .i64 d4) := bX1.cell 4 _ rfl
  have cX15 : (u4.alloc (.cells #[.int .i64 m1.1, .int .i64 m1.2.1] 23)).cell? ⟨n + 1, 5, none⟩ = some (.int .i64 d5) := bX1.cell 5 _ rfl
  have kX1 := bX1.lt
  go_wp2_with fail
  go_at_call 51
  refine (h2 _).mono ?_
  rintro r u5 ⟨rfl, hb⟩
  replace bX0 := bX0.keep hb
  replace bX1 := bX1.keep hb
  replace bZ := bZ.keep hb
  replace bM0 := bM0.keep hb
  replace bM1 := bM1.keep hb
  replace hB := hB.trans (hb.mono (by have := hB.size; omega))
  clear hb cX00 cX01 cX02 cX03 cX04 cX05 kX0 cX10 cX11 cX12 cX13 cX14 cX15 kX1
  generalize u4.heap.size = gM1 at *
  clear hsz
  have lX0 := bX0.lt
  have lX1 := bX1.lt
  have lZ := bZ.lt
  have lM0 := bM0.lt
  have lM1 := bM1.lt
  have hsz : n ≤ u5.heap.size := by have := hB.size; omega
  try clear oZ oB
  have oZ := bZ
  have oB := hB
  have bM2 := Bn.new u5 #[.int .i64 m2.1, .int .i64 m2.2.1] 23
  replace bX0 := bX0.alloc (.cells #[.int .i64 m2.1, .int .i64 m2.2.1] 23)
  replace bX1 := bX1.alloc (.cells #[.int .i64 m2.1, .int .i64 m2.2.1] 23)
  replace bZ := bZ.alloc (.cells #[.int .i64 m2.1, .int .i64 m2.2.1] 23)
  replace bM0 := bM0.alloc (.cells #[.int .i64 m2.1, .int .i64 m2.2.1] 23)
  replace bM1 := bM1.alloc (.cells #[.int .i64 m2.1, .int .i64 m2.2.1] 23)
  replace hB := hB.alloc hsz (.cells #[.int .i64 m2.1, .int .i64 m2.2.1] 23)
  have cM00 : (u5.alloc (.cells #[.int .i64 m2.1, .int .i64 m2.2.1] 23)).cell? ⟨gM0, 0, none⟩ = some (.int .i64 m0.1) := bM0.cell 0 _ rfl
  have cM01 : (u5.alloc (.cells #[.int .i64 m2.1, .int .i64 m2.2.1] 23)).cell? ⟨gM0, 1, none⟩ = some (.int .i64 m0.2.1) := bM0.cell 1 _ rfl
  have kM0 := bM0.lt
  have cM10 : (u5.alloc (.cells #[.int .i64 m2.1, .int .i64 m2.2.1] 23)).cell? ⟨gM1, 0, none⟩ = some (.int .i64 m1.1) := bM1.cell 0 _ rfl
  have cM11 : (u5.alloc (.cells #[.int .i64 m2.1, .int .i64 m2.2.1] 23)).cell? ⟨gM1, 1, none⟩ = some (.int .i64 m1.2.1) := bM1.cell 1 _ rfl
  have kM1 := bM1.lt
  have cM20 : (u5.alloc (.cells #[.int .i64 m2.1, .int .i64 m2.2.1] 23)).cell? ⟨u5.heap.size, 0, none⟩ = some (.int .i64 m2.1) := bM2.cell 0 _ rfl
  have cM21 : (u5.alloc (.cells #[.int .i64 m2.1, .int .i64 m2.2.1] 23)).cell? ⟨u5.heap.size, 1, none⟩ = some (.int .i64 m2.2.1) := bM2.cell 1 _ rfl
  have kM2 := bM2.lt
  go_wp2_with fail
  go_at_call 54
  refine (ht _).mono ?_
  rintro r u6 ⟨rfl, hb⟩
  replace bX0 := bX0.keep hb
  replace bX1 := bX1.keep hb
  replace bZ := bZ.keep hb
  replace bM0 := bM0.keep hb
  replace bM1 := bM1.keep hb
  replace bM2 := bM2.keep hb
  replace hB := hB.trans (hb.mono (by have := hB.size; omega))
  clear hb cM00 cM01 kM0 cM10 cM11 kM1 cM20 cM21 kM2
  generalize u5.heap.size = gM2 at *
  clear hsz
  have cZ0 : u6.cell? ⟨n + 2, 0, none⟩ = some (.int .i64 0) := bZ.cell 0 _ rfl
  have cZ1 : u6.cell? ⟨n + 2, 1, none⟩ = some (.int .i64 0) := bZ.cell 1 _ rfl
  have kZ := bZ.lt
  have zZ0 : u6.frozen? ⟨n + 2, 0, none⟩ = false := bZ.f 0
  have zZ1 : u6.frozen? ⟨n + 2, 1, none⟩ = false := bZ.f 1
  go_wp2
  refine bodyPost_ret (v := .tuple #[.agg #[.int .i64 t.1, .int .i64 t.2.1], .int .i64 t.2.2]) (by simp [results, Tryz.results20, go_sem, cZ0, zZ0, cZ1, zZ1, kZ]) rfl ⟨rfl, ?_⟩
  subst hn
  exact below2 hB (show w.heap.size ≤ w.heap.size + 2 by omega) _ _
set_option maxRecDepth 100000 in
set_option maxHeartbeats 4000000 in
theorem rDot_no0 (a0 a1 a2 a3 a4 a5 d0 d1 d2 d3 d4 d5 : Int) (ka : ckV a0 a1 a2 a3 a4 a5 ≠ 0) (w : World) :
    Calls Tryz.prog 20 #[.agg #[.int .i64 a0, .int .i64 a1, .int .i64 a2, .int .i64 a3, .int .i64 a4, .int .i64 a5], .agg #[.int .i64 d0, .int .i64 d1, .int .i64 d2, .int .i64 d3, .int .i64 d4, .int .i64 d5]] w fun r w' => r = .returned (.tuple #[.agg #[.int .i64 0, .int .i64 0], .int .i64 20]) ∧ Below w.heap.size w w' := by
  have g1 := fun w => rRight6_no a0 a1 a2 a3 a4 a5 ka w
  clear ka
  have bX0 := Bn.new w #[.int .i64 a0, .int .i64 a1, .int .i64 a2, .int .i64 a3, .int .i64 a4, .int .i64 a5] 25
  replace bX0 := bX0.alloc (.cells #[.int .i64 d0, .int .i64 d1, .int .i64 d2, .int .i64 d3, .int .i64 d4, .int .i64 d5] 25)
  replace bX0 := bX0.alloc (.cells #[.int .i64 0, .int .i64 0] 23)
  have bX1 := Bn.new (w.alloc (.cells #[.int .i64 a0, .int .i64 a1, .int .i64 a2, .int .i64 a3, .int .i64 a4, .int .i64 a5] 25)) #[.int .i64 d0, .int .i64 d1, .int .i64 d2, .int .i64 d3, .int .i64 d4, .int .i64 d5] 25
  rw [show (w.alloc (.cells #[.int .i64 a0, .int .i64 a1, .int .i64 a2, .int .i64 a3, .int .i64 a4, .int .i64 a5] 25)).heap.size = w.heap.size + 1 by simp] at bX1
  replace bX1 := bX1.alloc (.cells #[.int .i64 0, .int .i64 0] 23)
  have bZ := Bn.new ((w.alloc (.cells #[.int .i64 a0, .int .i64 a1, .int .i64 a2, .int .i64 a3, .int .i64 a4, .int .i64 a5] 25)).alloc (.cells #[.int .i64 d0, .int .i64 d1, .int .i64 d2, .int .i64 d3, .int .i64 d4, .int .i64 d5] 25)) #[.int .i64 0, .int .i64 0] 23
  rw [show ((w.alloc (.cells #[.int .i64 a0, .int .i64 a1, .int .i64 a2, .int .i64 a3, .int .i64 a4, .int .i64 a5] 25)).alloc (.cells #[.int .i64 d0, .int .i64 d1, .int .i64 d2, .int .i64 d3, .int .i64 d4, .int .i64 d5] 25)).heap.size = w.heap.size + 2 by simp] at bZ
  have hB : Below w.heap.size w (((w.alloc (.cells #[.int .i64 a0, .int .i64 a1, .int .i64 a2, .int .i64 a3, .int .i64 a4, .int .i64 a5] 25)).alloc (.cells #[.int .i64 d0, .int .i64 d1, .int .i64 d2, .int .i64 d3, .int .i64 d4, .int .i64 d5] 25)).alloc (.cells #[.int .i64 0, .int .i64 0] 23)) := by (repeat (first | with_reducible exact Below.refl _ _ | with_reducible assumption | refine Below.alloc ?_ (by (try simp); try omega) _ | refine Below.setCell ?_ (by (try simp); try omega) _ | refine below_drewN ?_ _ | refine Below.drew ?_ | (with_reducible refine Below.trans ?_ (Below.mono (by assumption) (by (try simp); try omega)))))
  generalize hv : (((w.alloc (.cells #[.int .i64 a0, .int .i64 a1, .int .i64 a2, .int .i64 a3, .int .i64 a4, .int .i64 a5] 25)).alloc (.cells #[.int .i64 d0, .int .i64 d1, .int .i64 d2, .int .i64 d3, .int .i64 d4, .int .i64 d5] 25)).alloc (.cells #[.int .i64 0, .int .i64 0] 23)) = v0 at *
  generalize hn : w.heap.size = n at *
  have cX00 : v0.cell? ⟨n, 0, none⟩ = some (.int .i64 a0) := bX0.cell 0 _ rfl
  have cX01 : v0.cell? ⟨n, 1, none⟩ = some (.int .i64 a1) := bX0.cell 1 _ rfl
  have cX02 : v0.cell? ⟨n, 2, none⟩ = some (.int .i64 a2) := bX0.cell 2 _ rfl
  have cX03 : v0.cell? ⟨n, 3, none⟩ = some (.int .i64 a3) := bX0.cell 3 _ rfl
  have cX04 : v0.cell? ⟨n, 4, none⟩ = some (.int .i64 a4) := bX0.cell 4 _ rfl
  have cX05 : v0.cell? ⟨n, 5, none⟩ = some (.int .i64 a5) := bX0.cell 5 _ rfl
  have kX0 := bX0.lt
  subst hv
  subst hn
  go_enter Tryz.func20, Tryz.ntmps20
  go_wp2_with fail
  go_at_call 39
  refine (g1 _).mono ?_
  rintro r u1 ⟨rfl, hb⟩
  replace bX0 := bX0.keep hb
  replace bX1 := bX1.keep hb
  replace bZ := bZ.keep hb
  replace hB := hB.trans (hb.mono hB.size)
  clear hb cX00 cX01 cX02 cX03 cX04 cX05 kX0
  generalize hn : w.heap.size = n at *
  have cZ0 : u1.cell? ⟨n + 2, 0, none⟩ = some (.int .i64 0) := bZ.cell 0 _ rfl
  have cZ1 : u1.cell? ⟨n + 2, 1, none⟩ = some (.int .i64 0) := bZ.cell 1 _ rfl
  have kZ := bZ.lt
  have zZ0 : u1.frozen? ⟨n + 2, 0, none⟩ = false := bZ.f 0
  have zZ1 : u1.frozen? ⟨n + 2, 1, none⟩ = false := bZ.f 1
  go_wp2
  refine bodyPost_ret (v := .tuple #[.agg #[.int .i64 0, .int .i64 0], .int .i64 20]) (by simp [results, Tryz.results20, go_sem, cZ0, zZ0, cZ1, zZ1, kZ]) rfl ⟨rfl, ?_⟩
  subst hn
  exact below2 hB (show w.heap.size ≤ w.heap.size + 2 by omega) _ _
set_option maxRecDepth 100000 in
set_option maxHeartbeats 4000000 in
theorem rDot_no1 (a0 a1 a2 a3 a4 a5 d0 d1 d2 d3 d4 d5 : Int) (ka : ckV a0 a1 a2 a3 a4 a5 = 0) (kd : ckV d0 d1 d2 d3 d4 d5 ≠ 0) (w : World) :
    Calls Tryz.prog 20 #[.agg #[.int .i64 a0, .int .i64 a1, .int .i64 a2, .int .i64 a3, .int .i64 a4, .int .i64 a5], .agg #[.int .i64 d0, .int .i64 d1, .int .i64 d2, .int .i64 d3, .int .i64 d4, .int .i64 d5]] w fun r w' => r = .returned (.tuple #[.agg #[.int .i64 0, .int .i64 0], .int .i64 20]) ∧ Below w.heap.size w w' := by
  have g1 := fun w => rRight6_ok a0 a1 a2 a3 a4 a5 ka w
  have g2 := fun w => rRight6_no d0 d1 d2 d3 d4 d5 kd w
  clear ka kd
  have bX0 := Bn.new w #[.int .i64 a0, .int .i64 a1, .int .i64 a2, .int .i64 a3, .int .i64 a4, .int .i64 a5] 25
  replace bX0 := bX0.alloc (.cells #[.int .i64 d0, .int .i64 d1, .int .i64 d2, .int .i64 d3, .int .i64 d4, .int .i64 d5] 25)
  replace bX0 := bX0.alloc (.cells #[.int .i64 0, .int .i64 0] 23)
  have bX1 := Bn.new (w.alloc (.cells #[.int .i64 a0, .int .i64 a1, .int .i64 a2, .int .i64 a3, .int .i64 a4, .int .i64 a5] 25)) #[.int .i64 d0, .int .i64 d1, .int .i64 d2, .int .i64 d3, .int .i64 d4, .int .i64 d5] 25
  rw [show (w.alloc (.cells #[.int .i64 a0, .int .i64 a1, .int .i64 a2, .int .i64 a3, .int .i64 a4, .int .i64 a5] 25)).heap.size = w.heap.size + 1 by simp] at bX1
  replace bX1 := bX1.alloc (.cells #[.int .i64 0, .int .i64 0] 23)
  have bZ := Bn.new ((w.alloc (.cells #[.int .i64 a0, .int .i64 a1, .int .i64 a2, .int .i64 a3, .int .i64 a4, .int .i64 a5] 25)).alloc (.cells #[.int .i64 d0, .int .i64 d1, .int .i64 d2, .int .i64 d3, .int .i64 d4, .int .i64 d5] 25)) #[.int .i64 0, .int .i64 0] 23
  rw [show ((w.alloc (.cells #[.int .i64 a0, .int .i64 a1, .int .i64 a2, .int .i64 a3, .int .i64 a4, .int .i64 a5] 25)).alloc (.cells #[.int .i64 d0, .int .i64 d1, .int .i64 d2, .int .i64 d3, .int .i64 d4, .int .i64 d5] 25)).heap.size = w.heap.size + 2 by simp] at bZ
  have hB : Below w.heap.size w (((w.alloc (.cells #[.int .i64 a0, .int .i64 a1, .int .i64 a2, .int .i64 a3, .int .i64 a4, .int .i64 a5] 25)).alloc (.cells #[.int .i64 d0, .int .i64 d1, .int .i64 d2, .int .i64 d3, .int .i64 d4, .int .i64 d5] 25)).alloc (.cells #[.int .i64 0, .int .i64 0] 23)) := by (repeat (first | with_reducible exact Below.refl _ _ | with_reducible assumption | refine Below.alloc ?_ (by (try simp); try omega) _ | refine Below.setCell ?_ (by (try simp); try omega) _ | refine below_drewN ?_ _ | refine Below.drew ?_ | (with_reducible refine Below.trans ?_ (Below.mono (by assumption) (by (try simp); try omega)))))
  generalize hv : (((w.alloc (.cells #[.int .i64 a0, .int .i64 a1, .int .i64 a2, .int .i64 a3, .int .i64 a4, .int .i64 a5] 25)).alloc (.cells #[.int .i64 d0, .int .i64 d1, .int .i64 d2, .int .i64 d3, .int .i64 d4, .int .i64 d5] 25)).alloc (.cells #[.int .i64 0, .int .i64 0] 23)) = v0 at *
  generalize hn : w.heap.size = n at *
  have cX00 : v0.cell? ⟨n, 0, none⟩ = some (.int .i64 a0) := bX0.cell 0 _ rfl
  have cX01 : v0.cell? ⟨n, 1, none⟩ = some (.int .i64 a1) := bX0.cell 1 _ rfl
  have cX02 : v0.cell? ⟨n, 2, none⟩ = some (.int .i64 a2) := bX0.cell 2 _ rfl
  have cX03 : v0.cell? ⟨n, 3, none⟩ = some (.int .i64 a3) := bX0.cell 3 _ rfl
  have cX04 : v0.cell? ⟨n, 4, none⟩ = some (.int .i64 a4) := bX0.cell 4 _ rfl
  have cX05 : v0.cell? ⟨n, 5, none⟩ = some (.int .i64 a5) := bX0.cell 5 _ rfl
  have kX0 := bX0.lt
  subst hv
  subst hn
  go_enter Tryz.func20, Tryz.ntmps20
  go_wp2_with fail
  go_at_call 39
  refine (g1 _).mono ?_
  rintro r u1 ⟨rfl, hb⟩
  replace bX0 := bX0.keep hb
  replace bX1 := bX1.keep hb
  replace bZ := bZ.keep hb
  replace hB := hB.trans (hb.mono hB.size)
  clear hb cX00 cX01 cX02 cX03 cX04 cX05 kX0
  generalize hn : w.heap.size = n at *
  have cX10 : u1.cell? ⟨n + 1, 0, none⟩ = some (.int .i64 d0) := bX1.cell 0 _ rfl
  have cX11 : u1.cell? ⟨n + 1, 1, none⟩ = some (.int .i64 d1) := bX1.cell 1 _ rfl
  have cX12 : u1.cell? ⟨n + 1, 2, none⟩ = some (.int .i64 d2) := bX1.cell 2 _ rfl
  have cX13 : u1.cell? ⟨n + 1, 3, none⟩ = some (.int .i64 d3) := bX1.cell 3 _ rfl
  have cX14 : u1.cell? ⟨n + 1, 4, none⟩ = some (.int .i64 d4) := bX1.cell 4 _ rfl
  have cX15 : u1.cell? ⟨n + 1, 5, none⟩ = some (.int .i64 d5) := bX1.cell 5 _ rfl
  have kX1 := bX1.lt
  go_wp2_with fail
  go_at_call 39
  refine (g2 _).mono ?_
  rintro r u2 ⟨rfl, hb⟩
  replace bX0 := bX0.keep hb
  replace bX1 := bX1.keep hb
  replace bZ := bZ.keep hb
  replace hB := hB.trans (hb.mono (by have := hB.size; omega))
  clear hb cX10 cX11 cX12 cX13 cX14 cX15 kX1
  have cZ0 : u2.cell? ⟨n + 2, 0, none⟩ = some (.int .i64 0) := bZ.cell 0 _ rfl
  have cZ1 : u2.cell? ⟨n + 2, 1, none⟩ = some (.int .i64 0) := bZ.cell 1 _ rfl
  have kZ := bZ.lt
  have zZ0 : u2.frozen? ⟨n + 2, 0, none⟩ = false := bZ.f 0
  have zZ1 : u2.frozen? ⟨n + 2, 1, none⟩ = false := bZ.f 1
  go_wp2
  refine bodyPost_ret (v := .tuple #[.agg #[.int .i64 0, .int .i64 0], .int .i64 20]) (by simp [results, Tryz.results20, go_sem, cZ0, zZ0, cZ1, zZ1, kZ]) rfl ⟨rfl, ?_⟩
  subst hn
  exact below2 hB (show w.heap.size ≤ w.heap.size + 2 by omega) _ _
theorem rDot_any (a0 a1 a2 a3 a4 a5 d0 d1 d2 d3 d4 d5 : Int) (w : World) :
    Calls Tryz.prog 20 #[.agg #[.int .i64 a0, .int .i64 a1, .int .i64 a2, .int .i64 a3, .int .i64 a4, .int .i64 a5], .agg #[.int .i64 d0, .int .i64 d1, .int .i64 d2, .int .i64 d3, .int .i64 d4, .int .i64 d5]] w fun r w' => r = .returned (.tuple #[.agg #[.int .i64 (vDotR a0 a1 a2 a3 a4 a5 d0 d1 d2 d3 d4 d5).1, .int .i64 (vDotR a0 a1 a2 a3 a4 a5 d0 d1 d2 d3 d4 d5).2.1], .int .i64 (vDotR a0 a1 a2 a3 a4 a5 d0 d1 d2 d3 d4 d5).2.2]) ∧ Below w.heap.size w w' := by
  by_cases ka : ckV a0 a1 a2 a3 a4 a5 = 0
  · by_cases kd : ckV d0 d1 d2 d3 d4 d5 = 0
    · exact rDot_ok a0 a1 a2 a3 a4 a5 d0 d1 d2 d3 d4 d5 ka kd w
    · have t := rDot_no1 a0 a1 a2 a3 a4 a5 d0 d1 d2 d3 d4 d5 ka kd w
      have e : ckV d0 d1 d2 d3 d4 d5 = 20 := by unfold ckV at kd ⊢; split; (rename_i c; rw [if_pos c] at kd; exact absurd rfl kd); rfl
      rw [show vDotR a0 a1 a2 a3 a4 a5 d0 d1 d2 d3 d4 d5 = (0, 0, 20) from by unfold vDotR vDotQ; rw [ka, e]; rfl]
      exact t
  · have t := rDot_no0 a0 a1 a2 a3 a4 a5 d0 d1 d2 d3 d4 d5 ka w
    have e : ckV a0 a1 a2 a3 a4 a5 = 20 := by unfold ckV at ka ⊢; split; (rename_i c; rw [if_pos c] at ka; exact absurd rfl ka); rfl
    rw [show vDotR a0 a1 a2 a3 a4 a5 d0 d1 d2 d3 d4 d5 = (0, 0, 20) from by unfold vDotR vDotQ; rw [e]; rfl]
    exact t
theorem sTold_e (e l h : Int) : (sTold e l h).2.2 = e := by
  unfold sTold; split
  · rename_i c; exact c.symm
  · rfl
theorem cross_told (x y z : Int × Int × Int) : vTold (fo x.2.2 (fo y.2.2 z.2.2)) ⟨x.1, x.2.1, y.1, y.2.1, z.1, z.2.1, fo x.2.2 (fo y.2.2 z.2.2)⟩ = vTold (fo (sTold x.2.2 x.1 x.2.1).2.2 (fo (sTold y.2.2 y.1 y.2.1).2.2 (sTold z.2.2 z.1 z.2.1).2.2)) ⟨(sTold x.2.2 x.1 x.2.1).1, (sTold x.2.2 x.1 x.2.1).2.1, (sTold y.2.2 y.1 y.2.1).1, (sTold y.2.2 y.1 y.2.1).2.1, (sTold z.2.2 z.1 z.2.1).1, (sTold z.2.2 z.1 z.2.1).2.1, 0⟩ := by
  rw [sTold_e, sTold_e, sTold_e]
  unfold vTold
  by_cases c : fo x.2.2 (fo y.2.2 z.2.2) = 0
  · rw [if_pos c, if_pos c]
    obtain ⟨e1, e2, e3⟩ := fo3_zero c
    unfold sTold
    rw [if_pos e1, if_pos e2, if_pos e3]
  · rw [if_neg c, if_neg c]
set_option maxRecDepth 100000 in
set_option maxHeartbeats 4000000 in
theorem rCross_ok (a0 a1 a2 a3 a4 a5 d0 d1 d2 d3 d4 d5 : Int) (ka : ckV a0 a1 a2 a3 a4 a5 = 0) (kd : ckV d0 d1 d2 d3 d4 d5 = 0) (w : World) :
    Calls Tryz.prog 22 #[.agg #[.int .i64 a0, .int .i64 a1, .int .i64 a2, .int .i64 a3, .int .i64 a4, .int .i64 a5], .agg #[.int .i64 d0, .int .i64 d1, .int .i64 d2, .int .i64 d3, .int .i64 d4, .int .i64 d5]] w fun r w' => r = .returned (.tuple #[.agg #[.int .i64 (vCrossR a0 a1 a2 a3 a4 a5 d0 d1 d2 d3 d4 d5).x0, .int .i64 (vCrossR a0 a1 a2 a3 a4 a5 d0 d1 d2 d3 d4 d5).x1, .int .i64 (vCrossR a0 a1 a2 a3 a4 a5 d0 d1 d2 d3 d4 d5).y0, .int .i64 (vCrossR a0 a1 a2 a3 a4 a5 d0 d1 d2 d3 d4 d5).y1, .int .i64 (vCrossR a0 a1 a2 a3 a4 a5 d0 d1 d2 d3 d4 d5).z0, .int .i64 (vCrossR a0 a1 a2 a3 a4 a5 d0 d1 d2 d3 d4 d5).z1], .int .i64 (vCrossR a0 a1 a2 a3 a4 a5 d0 d1 d2 d3 d4 d5).e]) ∧ Below w.heap.size w w' := by
  have g1 := fun w => rRight6_ok a0 a1 a2 a3 a4 a5 ka w
  have g2 := fun w => rRight6_ok d0 d1 d2 d3 d4 d5 kd w
  rw [show vCrossR a0 a1 a2 a3 a4 a5 d0 d1 d2 d3 d4 d5 = vTold (fo (sTold (vCompR a2 a3 d4 d5 a4 a5 d2 d3).2.2 (vCompR a2 a3 d4 d5 a4 a5 d2 d3).1 (vCompR a2 a3 d4 d5 a4 a5 d2 d3).2.1).2.2 (fo (sTold (vCompR a4 a5 d0 d1 a0 a1 d4 d5).2.2 (vCompR a4 a5 d0 d1 a0 a1 d4 d5).1 (vCompR a4 a5 d0 d1 a0 a1 d4 d5).2.1).2.2 (sTold (vCompR a0 a1 d2 d3 a2 a3 d0 d1).2.2 (vCompR a0 a1 d2 d3 a2 a3 d0 d1).1 (vCompR a0 a1 d2 d3 a2 a3 d0 d1).2.1).2.2)) ⟨(sTold (vCompR a2 a3 d4 d5 a4 a5 d2 d3).2.2 (vCompR a2 a3 d4 d5 a4 a5 d2 d3).1 (vCompR a2 a3 d4 d5 a4 a5 d2 d3).2.1).1, (sTold (vCompR a2 a3 d4 d5 a4 a5 d2 d3).2.2 (vCompR a2 a3 d4 d5 a4 a5 d2 d3).1 (vCompR a2 a3 d4 d5 a4 a5 d2 d3).2.1).2.1, (sTold (vCompR a4 a5 d0 d1 a0 a1 d4 d5).2.2 (vCompR a4 a5 d0 d1 a0 a1 d4 d5).1 (vCompR a4 a5 d0 d1 a0 a1 d4 d5).2.1).1, (sTold (vCompR a4 a5 d0 d1 a0 a1 d4 d5).2.2 (vCompR a4 a5 d0 d1 a0 a1 d4 d5).1 (vCompR a4 a5 d0 d1 a0 a1 d4 d5).2.1).2.1, (sTold (vCompR a0 a1 d2 d3 a2 a3 d0 d1).2.2 (vCompR a0 a1 d2 d3 a2 a3 d0 d1).1 (vCompR a0 a1 d2 d3 a2 a3 d0 d1).2.1).1, (sTold (vCompR a0 a1 d2 d3 a2 a3 d0 d1).2.2 (vCompR a0 a1 d2 d3 a2 a3 d0 d1).1 (vCompR a0 a1 d2 d3 a2 a3 d0 d1).2.1).2.1, 0⟩ from by unfold vCrossR vCrossQ; rw [ka, kd]; exact cross_told _ _ _]
  clear ka kd
  have h0 := fun w => rLess_any a2 a3 d4 d5 a4 a5 d2 d3 w
  generalize sTold (vCompR a2 a3 d4 d5 a4 a5 d2 d3).2.2 (vCompR a2 a3 d4 d5 a4 a5 d2 d3).1 (vCompR a2 a3 d4 d5 a4 a5 d2 d3).2.1 = m0 at *
  have h1 := fun w => rLess_any a4 a5 d0 d1 a0 a1 d4 d5 w
  generalize sTold (vCompR a4 a5 d0 d1 a0 a1 d4 d5).2.2 (vCompR a4 a5 d0 d1 a0 a1 d4 d5).1 (vCompR a4 a5 d0 d1 a0 a1 d4 d5).2.1 = m1 at *
  have h2 := fun w => rLess_any a0 a1 d2 d3 a2 a3 d0 d1 w
  generalize sTold (vCompR a0 a1 d2 d3 a2 a3 d0 d1).2.2 (vCompR a0 a1 d2 d3 a2 a3 d0 d1).1 (vCompR a0 a1 d2 d3 a2 a3 d0 d1).2.1 = m2 at *
  have ht := fun w => rVector_any m0.1 m0.2.1 m1.1 m1.2.1 m2.1 m2.2.1 m0.2.2 m1.2.2 m2.2.2 w
  generalize vTold (fo m0.2.2 (fo m1.2.2 m2.2.2)) ⟨m0.1, m0.2.1, m1.1, m1.2.1, m2.1, m2.2.1, 0⟩ = t at *
  have bX0 := Bn.new w #[.int .i64 a0, .int .i64 a1, .int .i64 a2, .int .i64 a3, .int .i64 a4, .int .i64 a5] 25
  replace bX0 := bX0.alloc (.cells #[.int .i64 d0, .int .i64 d1, .int .i64 d2, .int .i64 d3, .int .i64 d4, .int .i64 d5] 25)
  replace bX0 := bX0.alloc (.cells #[.int .i64 0, .int .i64 0, .int .i64 0, .int .i64 0, .int .i64 0, .int .i64 0] 25)
  have bX1 := Bn.new (w.alloc (.cells #[.int .i64 a0, .int .i64 a1, .int .i64 a2, .int .i64 a3, .int .i64 a4, .int .i64 a5] 25)) #[.int .i64 d0, .int .i64 d1, .int .i64 d2, .int .i64 d3, .int .i64 d4, .int .i64 d5] 25
  rw [show (w.alloc (.cells #[.int .i64 a0, .int .i64 a1, .int .i64 a2, .int .i64 a3, .int .i64 a4, .int .i64 a5] 25)).heap.size = w.heap.size + 1 by simp] at bX1
  replace bX1 := bX1.alloc (.cells #[.int .i64 0, .int .i64 0, .int .i64 0, .int .i64 0, .int .i64 0, .int .i64 0] 25)
  have bZ := Bn.new ((w.alloc (.cells #[.int .i64 a0, .int .i64 a1, .int .i64 a2, .int .i64 a3, .int .i64 a4, .int .i64 a5] 25)).alloc (.cells #[.int .i64 d0, .int .i64 d1, .int .i64 d2, .int .i64 d3, .int .i64 d4, .int .i64 d5] 25)) #[.int .i64 0, .int .i64 0, .int .i64 0, .int .i64 0, .int .i64 0, .int .i64 0] 25
  rw [show ((w.alloc (.cells #[.int .i64 a0, .int .i64 a1, .int .i64 a2, .int .i64 a3, .int .i64 a4, .int .i64 a5] 25)).alloc (.cells #[.int .i64 d0, .int .i64 d1, .int .i64 d2, .int .i64 d3, .int .i64 d4, .int .i64 d5] 25)).heap.size = w.heap.size + 2 by simp] at bZ
  have hB : Below w.heap.size w (((w.alloc (.cells #[.int .i64 a0, .int .i64 a1, .int .i64 a2, .int .i64 a3, .int .i64 a4, .int .i64 a5] 25)).alloc (.cells #[.int .i64 d0, .int .i64 d1, .int .i64 d2, .int .i64 d3, .int .i64 d4, .int .i64 d5] 25)).alloc (.cells #[.int .i64 0, .int .i64 0, .int .i64 0, .int .i64 0, .int .i64 0, .int .i64 0] 25)) := by (repeat (first | with_reducible exact Below.refl _ _ | with_reducible assumption | refine Below.alloc ?_ (by (try simp); try omega) _ | refine Below.setCell ?_ (by (try simp); try omega) _ | refine below_drewN ?_ _ | refine Below.drew ?_ | (with_reducible refine Below.trans ?_ (Below.mono (by assumption) (by (try simp); try omega)))))
  generalize hv : (((w.alloc (.cells #[.int .i64 a0, .int .i64 a1, .int .i64 a2, .int .i64 a3, .int .i64 a4, .int .i64 a5] 25)).alloc (.cells #[.int .i64 d0, .int .i64 d1, .int .i64 d2, .int .i64 d3, .int .i64 d4, .int .i64 d5] 25)).alloc (.cells #[.int .i64 0, .int .i64 0, .int .i64 0, .int .i64 0, .int .i64 0, .int .i64 0] 25)) = v0 at *
  generalize hn : w.heap.size = n at *
  have cX00 : v0.cell? ⟨n, 0, none⟩ = some (.int .i64 a0) := bX0.cell 0 _ rfl
  have cX01 : v0.cell? ⟨n, 1, none⟩ = some (.int .i64 a1) := bX0.cell 1 _ rfl
  have cX02 : v0.cell? ⟨n, 2, none⟩ = some (.int .i64 a2) := bX0.cell 2 _ rfl
  have cX03 : v0.cell? ⟨n, 3, none⟩ = some (.int .i64 a3) := bX0.cell 3 _ rfl
  have cX04 : v0.cell? ⟨n, 4, none⟩ = some (.int .i64 a4) := bX0.cell 4 _ rfl
  have cX05 : v0.cell? ⟨n, 5, none⟩ = some (.int .i64 a5) := bX0.cell 5 _ rfl
  have kX0 := bX0.lt
  subst hv
  subst hn
  go_enter Tryz.func22, Tryz.ntmps22
  go_wp2_with fail
  go_at_call 39
  refine (g1 _).mono ?_
  rintro r u1 ⟨rfl, hb⟩
  replace bX0 := bX0.keep hb
  replace bX1 := bX1.keep hb
  replace bZ := bZ.keep hb
  replace hB := hB.trans (hb.mono hB.size)
  clear hb cX00 cX01 cX02 cX03 cX04 cX05 kX0
  generalize hn : w.heap.size = n at *
  have cX10 : u1.cell? ⟨n + 1, 0, none⟩ = some (.int .i64 d0) := bX1.cell 0 _ rfl
  have cX11 : u1.cell? ⟨n + 1, 1, none⟩ = some (.int .i64 d1) := bX1.cell 1 _ rfl
  have cX12 : u1.cell? ⟨n + 1, 2, none⟩ = some (.int .i64 d2) := bX1.cell 2 _ rfl
  have cX13 : u1.cell? ⟨n + 1, 3, none⟩ = some (.int .i64 d3) := bX1.cell 3 _ rfl
  have cX14 : u1.cell? ⟨n + 1, 4, none⟩ = some (.int .i64 d4) := bX1.cell 4 _ rfl
  have cX15 : u1.cell? ⟨n + 1, 5, none⟩ = some (.int .i64 d5) := bX1.cell 5 _ rfl
  have kX1 := bX1.lt
  go_wp2_with fail
  go_at_call 39
  refine (g2 _).mono ?_
  rintro r u2 ⟨rfl, hb⟩
  replace bX0 := bX0.keep hb
  replace bX1 := bX1.keep hb
  replace bZ := bZ.keep hb
  replace hB := hB.trans (hb.mono (by have := hB.size; omega))
  clear hb cX10 cX11 cX12 cX13 cX14 cX15 kX1
  have cX00 : u2.cell? ⟨n, 0, none⟩ = some (.int .i64 a0) := bX0.cell 0 _ rfl
  have cX01 : u2.cell? ⟨n, 1, none⟩ = some (.int .i64 a1) := bX0.cell 1 _ rfl
  have cX02 : u2.cell? ⟨n, 2, none⟩ = some (.int .i64 a2) := bX0.cell 2 _ rfl
  have cX03 : u2.cell? ⟨n, 3, none⟩ = some (.int .i64 a3) := bX0.cell 3 _ rfl
  have cX04 : u2.cell? ⟨n, 4, none⟩ = some (.int .i64 a4) := bX0.cell 4 _ rfl
  have cX05 : u2.cell? ⟨n, 5, none⟩ = some (.int .i64 a5) := bX0.cell 5 _ rfl
  have kX0 := bX0.lt
  have cX10 : u2.cell? ⟨n + 1, 0, none⟩ = some (.int .i64 d0) := bX1.cell 0 _ rfl
  have cX11 : u2.cell? ⟨n + 1, 1, none⟩ = some (.int .i64 d1) := bX1.cell 1 _ rfl
  have cX12 : u2.cell? ⟨n + 1, 2, none⟩ = some (.int .i64 d2) := bX1.cell 2 _ rfl
  have cX13 : u2.cell? ⟨n + 1, 3, none⟩ = some (.int .i64 d3) := bX1.cell 3 _ rfl
  have cX14 : u2.cell? ⟨n + 1, 4, none⟩ = some (.int .i64 d4) := bX1.cell 4 _ rfl
  have cX15 : u2.cell? ⟨n + 1, 5, none⟩ = some (.int .i64 d5) := bX1.cell 5 _ rfl
  have kX1 := bX1.lt
  go_wp2_with fail
  go_at_call 56
  refine (h0 _).mono ?_
  rintro r u3 ⟨rfl, hb⟩
  replace bX0 := bX0.keep hb
  replace bX1 := bX1.keep hb
  replace bZ := bZ.keep hb
  replace hB := hB.trans (hb.mono (by have := hB.size; omega))
  clear hb cX00 cX01 cX02 cX03 cX04 cX05 kX0 cX10 cX11 cX12 cX13 cX14 cX15 kX1
  have lX0 := bX0.lt
  have lX1 := bX1.lt
  have lZ := bZ.lt
  have hsz : n ≤ u3.heap.size := by have := hB.size; omega
  try clear oZ oB
  have oZ := bZ
  have oB := hB
  have bM0 := Bn.new u3 #[.int .i64 m0.1, .int .i64 m0.2.1] 23
  replace bX0 := bX0.alloc (.cells #[.int .i64 m0.1, .int .i64 m0.2.1] 23)
  replace bX1 := bX1.alloc (.cells #[.int .i64 m0.1, .int .i64 m0.2.1] 23)
  replace bZ := bZ.alloc (.cells #[.int .i64 m0.1, .int .i64 m0.2.1] 23)
  replace hB := hB.alloc hsz (.cells #[.int .i64 m0.1, .int .i64 m0.2.1] 23)
  have cX00 : (u3.alloc (.cells #[.int .i64 m0.1, .int .i64 m0.2.1] 23)).cell? ⟨n, 0, none⟩ = some (.int .i64 a0) := bX0.cell 0 _ rfl
  have cX01 : (u3.alloc (.cells #[.int .i64 m0.1, .int .i64 m0.2.1] 23)).cell? ⟨n, 1, none⟩ = some (.int .i64 a1) := bX0.cell 1 _ rfl
  have cX02 : (u3.alloc (.cells #[.int .i64 m0.1, .int .i64 m0.2.1] 23)).cell? ⟨n, 2, none⟩ = some (.int .i64 a2) := bX0.cell 2 _ rfl
  have cX03 : (u3.alloc (.cells #[.int .i64 m0.1, .int .i64 m0.2.1] 23)).cell? ⟨n, 3, none⟩ = some (.int .i64 a3) := bX0.cell 3 _ rfl
  have cX04 : (u3.alloc (.cells #[.int .i64 m0.1, .int .i64 m0.2.1] 23)).cell? ⟨n, 4, none⟩ = some (.int .i64 a4) := bX0.cell 4 _ rfl
  have cX05 : (u3.alloc (.cells #[.int .i64 m0.1, .int .i64 m0.2.1] 23)).cell? ⟨n, 5, none⟩ = some (.int .i64 a5) := bX0.cell 5 _ rfl
  have kX0 := bX0.lt
  have cX10 : (u3.alloc (.cells #[.int .i64 m0.1, .int .i64 m0.2.1] 23)).cell? ⟨n + 1, 0, none⟩ = some (.int .i64 d0) := bX1.cell 0 _ rfl
  have cX11 : (u3.alloc (.cells #[.int .i64 m0.1, .int .i64 m0.2.1] 23)).cell? ⟨n + 1, 1, none⟩ = some (.int .i64 d1) := bX1.cell 1 _ rfl
  have cX12 : (u3.alloc (.cells #[.int .i64 m0.1, .int .i64 m0.2.1] 23)).cell? ⟨n + 1, 2, none⟩ = some (.int .i64 d2) := bX1.cell 2 _ rfl
  have cX13 : (u3.alloc (.cells #[.int .i64 m0.1, .int .i64 m0.2.1] 23)).cell? ⟨n + 1, 3, none⟩ = some (.int .i64 d3) := bX1.cell 3 _ rfl
  have cX14 : (u3.alloc (.cells #[.int .i64 m0.1, .int .i64 m0.2.1] 23)).cell? ⟨n + 1, 4, none⟩ = some (.int .i64 d4) := bX1.cell 4 _ rfl
  have cX15 : (u3.alloc (.cells #[.int .i64 m0.1, .int .i64 m0.2.1] 23)).cell? ⟨n + 1, 5, none⟩ = some (.int .i64 d5) := bX1.cell 5 _ rfl
  have kX1 := bX1.lt
  go_wp2_with fail
  go_at_call 56
  refine (h1 _).mono ?_
  rintro r u4 ⟨rfl, hb⟩
  replace bX0 := bX0.keep hb
  replace bX1 := bX1.keep hb
  replace bZ := bZ.keep hb
  replace bM0 := bM0.keep hb
  replace hB := hB.trans (hb.mono (by have := hB.size; omega))
  clear hb cX00 cX01 cX02 cX03 cX04 cX05 kX0 cX10 cX11 cX12 cX13 cX14 cX15 kX1
  generalize u3.heap.size = gM0 at *
  clear hsz
  have lX0 := bX0.lt
  have lX1 := bX1.lt
  have lZ := bZ.lt
  have lM0 := bM0.lt
  have hsz : n ≤ u4.heap.size := by have := hB.size; omega
  try clear oZ oB
  have oZ := bZ
  have oB := hB
  have bM1 := Bn.new u4 #[.int .i64 m1.1, .int .i64 m1.2.1] 23
  replace bX0 := bX0.alloc (.cells #[.int .i64 m1.1, .int .i64 m1.2.1] 23)
  replace bX1 := bX1.alloc (.cells #[.int .i64 m1.1, .int .i64 m1.2.1] 23)
  replace bZ := bZ.alloc (.cells #[.int .i64 m1.1, .int .i64 m1.2.1] 23)
  replace bM0 := bM0.alloc (.cells #[.int .i64 m1.1, .int .i64 m1.2.1] 23)
  replace hB := hB.alloc hsz (.cells #[.int .i64 m1.1, .int .i64 m1.2.1] 23)
  have cX00 : (u4.alloc (.cells #[.int .i64 m1.1, .int .i64 m1.2.1] 23)).cell? ⟨n, 0, none⟩ = some (.int .i64 a0) := bX0.cell 0 _ rfl
  have cX01 : (u4.alloc (.cells #[.int .i64 m1.1, .int .i64 m1.2.1] 23)).cell? ⟨n, 1, none⟩ = some (.int .i64 a1) := bX0.cell 1 _ rfl
  have cX02 : (u4.alloc (.cells #[.int .i64 m1.1, .int .i64 m1.2.1] 23)).cell? ⟨n, 2, none⟩ = some (.int .i64 a2) := bX0.cell 2 _ rfl
  have cX03 : (u4.alloc (.cells #[.int .i64 m1.1, .int .i64 m1.2.1] 23)).cell? ⟨n, 3, none⟩ = some (.int .i64 a3) := bX0.cell 3 _ rfl
  have cX04 : (u4.alloc (.cells #[.int .i64 m1.1, .int .i64 m1.2.1] 23)).cell? ⟨n, 4, none⟩ = some (.int .i64 a4) := bX0.cell 4 _ rfl
  have cX05 : (u4.alloc (.cells #[.int .i64 m1.1, .int .i64 m1.2.1] 23)).cell? ⟨n, 5, none⟩ = some (.int .i64 a5) := bX0.cell 5 _ rfl
  have kX0 := bX0.lt
  have cX10 : (u4.alloc (.cells #[.int .i64 m1.1, .int .i64 m1.2.1] 23)).cell? ⟨n + 1, 0, none⟩ = some (.int .i64 d0) := bX1.cell 0 _ rfl
  have cX11 : (u4.alloc (.cells #[.int .i64 m1.1, .int .i64 m1.2.1] 23)).cell? ⟨n + 1, 1, none⟩ = some (.int .i64 d1) := bX1.cell 1 _ rfl
  have cX12 : (u4.alloc (.cells #[.int .i64 m1.1, .int .i64 m1.2.1] 23)).cell? ⟨n + 1, 2, none⟩ = some (.int .i64 d2) := bX1.cell 2 _ rfl
  have cX13 : (u4.alloc (.cells #[.int .i64 m1.1, .int .i64 m1.2.1] 23)).cell? ⟨n + 1, 3, none⟩ = some (.int .i64 d3) := bX1.cell 3 _ rfl
  have cX14 : (u4.alloc (.cells #[.int .i64 m1.1, .int .i64 m1.2.1] 23)).cell? ⟨n + 1, 4, none⟩ = some (.int .i64 d4) := bX1.cell 4 _ rfl
  have cX15 : (u4.alloc (.cells #[.int .i64 m1.1, .int .i64 m1.2.1] 23)).cell? ⟨n + 1, 5, none⟩ = some (.int .i64 d5) := bX1.cell 5 _ rfl
  have kX1 := bX1.lt
  go_wp2_with fail
  go_at_call 56
  refine (h2 _).mono ?_
  rintro r u5 ⟨rfl, hb⟩
  replace bX0 := bX0.keep hb
  replace bX1 := bX1.keep hb
  replace bZ := bZ.keep hb
  replace bM0 := bM0.keep hb
  replace bM1 := bM1.keep hb
  replace hB := hB.trans (hb.mono (by have := hB.size; omega))
  clear hb cX00 cX01 cX02 cX03 cX04 cX05 kX0 cX10 cX11 cX12 cX13 cX14 cX15 kX1
  generalize u4.heap.size = gM1 at *
  clear hsz
  have lX0 := bX0.lt
  have lX1 := bX1.lt
  have lZ := bZ.lt
  have lM0 := bM0.lt
  have lM1 := bM1.lt
  have hsz : n ≤ u5.heap.size := by have := hB.size; omega
  try clear oZ oB
  have oZ := bZ
  have oB := hB
  have bM2 := Bn.new u5 #[.int .i64 m2.1, .int .i64 m2.2.1] 23
  replace bX0 := bX0.alloc (.cells #[.int .i64 m2.1, .int .i64 m2.2.1] 23)
  replace bX1 := bX1.alloc (.cells #[.int .i64 m2.1, .int .i64 m2.2.1] 23)
  replace bZ := bZ.alloc (.cells #[.int .i64 m2.1, .int .i64 m2.2.1] 23)
  replace bM0 := bM0.alloc (.cells #[.int .i64 m2.1, .int .i64 m2.2.1] 23)
  replace bM1 := bM1.alloc (.cells #[.int .i64 m2.1, .int .i64 m2.2.1] 23)
  replace hB := hB.alloc hsz (.cells #[.int .i64 m2.1, .int .i64 m2.2.1] 23)
  have cM00 : (u5.alloc (.cells #[.int .i64 m2.1, .int .i64 m2.2.1] 23)).cell? ⟨gM0, 0, none⟩ = some (.int .i64 m0.1) := bM0.cell 0 _ rfl
  have cM01 : (u5.alloc (.cells #[.int .i64 m2.1, .int .i64 m2.2.1] 23)).cell? ⟨gM0, 1, none⟩ = some (.int .i64 m0.2.1) := bM0.cell 1 _ rfl
  have kM0 := bM0.lt
  have cM10 : (u5.alloc (.cells #[.int .i64 m2.1, .int .i64 m2.2.1] 23)).cell? ⟨gM1, 0, none⟩ = some (.int .i64 m1.1) := bM1.cell 0 _ rfl
  have cM11 : (u5.alloc (.cells #[.int .i64 m2.1, .int .i64 m2.2.1] 23)).cell? ⟨gM1, 1, none⟩ = some (.int .i64 m1.2.1) := bM1.cell 1 _ rfl
  have kM1 := bM1.lt
  have cM20 : (u5.alloc (.cells #[.int .i64 m2.1, .int .i64 m2.2.1] 23)).cell? ⟨u5.heap.size, 0, none⟩ = some (.int .i64 m2.1) := bM2.cell 0 _ rfl
  have cM21 : (u5.alloc (.cells #[.int .i64 m2.1, .int .i64 m2.2.1] 23)).cell? ⟨u5.heap.size, 1, none⟩ = some (.int .i64 m2.2.1) := bM2.cell 1 _ rfl
  have kM2 := bM2.lt
  go_wp2_with fail
  go_at_call 41
  refine (ht _).mono ?_
  rintro r u6 ⟨rfl, hb⟩
  replace bX0 := bX0.keep hb
  replace bX1 := bX1.keep hb
  replace bZ := bZ.keep hb
  replace bM0 := bM0.keep hb
  replace bM1 := bM1.keep hb
  replace bM2 := bM2.keep hb
  replace hB := hB.trans (hb.mono (by have := hB.size; omega))
  clear hb cM00 cM01 kM0 cM10 cM11 kM1 cM20 cM21 kM2
  generalize u5.heap.size = gM2 at *
  clear hsz
  have cZ0 : u6.cell? ⟨n + 2, 0, none⟩ = some (.int .i64 0) := bZ.cell 0 _ rfl
  have cZ1 : u6.cell? ⟨n + 2, 1, none⟩ = some (.int .i64 0) := bZ.cell 1 _ rfl
  have cZ2 : u6.cell? ⟨n + 2, 2, none⟩ = some (.int .i64 0) := bZ.cell 2 _ rfl
  have cZ3 : u6.cell? ⟨n + 2, 3, none⟩ = some (.int .i64 0) := bZ.cell 3 _ rfl
  have cZ4 : u6.cell? ⟨n + 2, 4, none⟩ = some (.int .i64 0) := bZ.cell 4 _ rfl
  have cZ5 : u6.cell? ⟨n + 2, 5, none⟩ = some (.int .i64 0) := bZ.cell 5 _ rfl
  have kZ := bZ.lt
  have zZ0 : u6.frozen? ⟨n + 2, 0, none⟩ = false := bZ.f 0
  have zZ1 : u6.frozen? ⟨n + 2, 1, none⟩ = false := bZ.f 1
  have zZ2 : u6.frozen? ⟨n + 2, 2, none⟩ = false := bZ.f 2
  have zZ3 : u6.frozen? ⟨n + 2, 3, none⟩ = false := bZ.f 3
  have zZ4 : u6.frozen? ⟨n + 2, 4, none⟩ = false := bZ.f 4
  have zZ5 : u6.frozen? ⟨n + 2, 5, none⟩ = false := bZ.f 5
  go_wp2
  refine bodyPost_ret (v := .tuple #[.agg #[.int .i64 t.x0, .int .i64 t.x1, .int .i64 t.y0, .int .i64 t.y1, .int .i64 t.z0, .int .i64 t.z1], .int .i64 t.e]) (by simp [results, Tryz.results22, go_sem, cZ0, zZ0, cZ1, zZ1, cZ2, zZ2, cZ3, zZ3, cZ4, zZ4, cZ5, zZ5, kZ]) rfl ⟨rfl, ?_⟩
  subst hn
  exact below6 hB (show w.heap.size ≤ w.heap.size + 2 by omega) _ _ _ _ _ _
set_option maxRecDepth 100000 in
set_option maxHeartbeats 4000000 in
theorem rCross_no0 (a0 a1 a2 a3 a4 a5 d0 d1 d2 d3 d4 d5 : Int) (ka : ckV a0 a1 a2 a3 a4 a5 ≠ 0) (w : World) :
    Calls Tryz.prog 22 #[.agg #[.int .i64 a0, .int .i64 a1, .int .i64 a2, .int .i64 a3, .int .i64 a4, .int .i64 a5], .agg #[.int .i64 d0, .int .i64 d1, .int .i64 d2, .int .i64 d3, .int .i64 d4, .int .i64 d5]] w fun r w' => r = .returned (.tuple #[.agg #[.int .i64 0, .int .i64 0, .int .i64 0, .int .i64 0, .int .i64 0, .int .i64 0], .int .i64 20]) ∧ Below w.heap.size w w' := by
  have g1 := fun w => rRight6_no a0 a1 a2 a3 a4 a5 ka w
  clear ka
  have bX0 := Bn.new w #[.int .i64 a0, .int .i64 a1, .int .i64 a2, .int .i64 a3, .int .i64 a4, .int .i64 a5] 25
  replace bX0 := bX0.alloc (.cells #[.int .i64 d0, .int .i64 d1, .int .i64 d2, .int .i64 d3, .int .i64 d4, .int .i64 d5] 25)
  replace bX0 := bX0.alloc (.cells #[.int .i64 0, .int .i64 0, .int .i64 0, .int .i64 0, .int .i64 0, .int .i64 0] 25)
  have bX1 := Bn.new (w.alloc (.cells #[.int .i64 a0, .int .i64 a1, .int .i64 a2, .int .i64 a3, .int .i64 a4, .int .i64 a5] 25)) #[.int .i64 d0, .int .i64 d1, .int .i64 d2, .int .i64 d3, .int .i64 d4, .int .i64 d5] 25
  rw [show (w.alloc (.cells #[.int .i64 a0, .int .i64 a1, .int .i64 a2, .int .i64 a3, .int .i64 a4, .int .i64 a5] 25)).heap.size = w.heap.size + 1 by simp] at bX1
  replace bX1 := bX1.alloc (.cells #[.int .i64 0, .int .i64 0, .int .i64 0, .int .i64 0, .int .i64 0, .int .i64 0] 25)
  have bZ := Bn.new ((w.alloc (.cells #[.int .i64 a0, .int .i64 a1, .int .i64 a2, .int .i64 a3, .int .i64 a4, .int .i64 a5] 25)).alloc (.cells #[.int .i64 d0, .int .i64 d1, .int .i64 d2, .int .i64 d3, .int .i64 d4, .int .i64 d5] 25)) #[.int .i64 0, .int .i64 0, .int .i64 0, .int .i64 0, .int .i64 0, .int .i64 0] 25
  rw [show ((w.alloc (.cells #[.int .i64 a0, .int .i64 a1, .int .i64 a2, .int .i64 a3, .int .i64 a4, .int .i64 a5] 25)).alloc (.cells #[.int .i64 d0, .int .i64 d1, .int .i64 d2, .int .i64 d3, .int .i64 d4, .int .i64 d5] 25)).heap.size = w.heap.size + 2 by simp] at bZ
  have hB : Below w.heap.size w (((w.alloc (.cells #[.int .i64 a0, .int .i64 a1, .int .i64 a2, .int .i64 a3, .int .i64 a4, .int .i64 a5] 25)).alloc (.cells #[.int .i64 d0, .int .i64 d1, .int .i64 d2, .int .i64 d3, .int .i64 d4, .int .i64 d5] 25)).alloc (.cells #[.int .i64 0, .int .i64 0, .int .i64 0, .int .i64 0, .int .i64 0, .int .i64 0] 25)) := by (repeat (first | with_reducible exact Below.refl _ _ | with_reducible assumption | refine Below.alloc ?_ (by (try simp); try omega) _ | refine Below.setCell ?_ (by (try simp); try omega) _ | refine below_drewN ?_ _ | refine Below.drew ?_ | (with_reducible refine Below.trans ?_ (Below.mono (by assumption) (by (try simp); try omega)))))
  generalize hv : (((w.alloc (.cells #[.int .i64 a0, .int .i64 a1, .int .i64 a2, .int .i64 a3, .int .i64 a4, .int .i64 a5] 25)).alloc (.cells #[.int .i64 d0, .int .i64 d1, .int .i64 d2, .int .i64 d3, .int .i64 d4, .int .i64 d5] 25)).alloc (.cells #[.int .i64 0, .int .i64 0, .int .i64 0, .int .i64 0, .int .i64 0, .int .i64 0] 25)) = v0 at *
  generalize hn : w.heap.size = n at *
  have cX00 : v0.cell? ⟨n, 0, none⟩ = some (.int .i64 a0) := bX0.cell 0 _ rfl
  have cX01 : v0.cell? ⟨n, 1, none⟩ = some (.int .i64 a1) := bX0.cell 1 _ rfl
  have cX02 : v0.cell? ⟨n, 2, none⟩ = some (.int .i64 a2) := bX0.cell 2 _ rfl
  have cX03 : v0.cell? ⟨n, 3, none⟩ = some (.int .i64 a3) := bX0.cell 3 _ rfl
  have cX04 : v0.cell? ⟨n, 4, none⟩ = some (.int .i64 a4) := bX0.cell 4 _ rfl
  have cX05 : v0.cell? ⟨n, 5, none⟩ = some (.int .i64 a5) := bX0.cell 5 _ rfl
  have kX0 := bX0.lt
  subst hv
  subst hn
  go_enter Tryz.func22, Tryz.ntmps22
  go_wp2_with fail
  go_at_call 39
  refine (g1 _).mono ?_
  rintro r u1 ⟨rfl, hb⟩
  replace bX0 := bX0.keep hb
  replace bX1 := bX1.keep hb
  replace bZ := bZ.keep hb
  replace hB := hB.trans (hb.mono hB.size)
  clear hb cX00 cX01 cX02 cX03 cX04 cX05 kX0
  generalize hn : w.heap.size = n at *
  have cZ0 : u1.cell? ⟨n + 2, 0, none⟩ = some (.int .i64 0) := bZ.cell 0 _ rfl
  have cZ1 : u1.cell? ⟨n + 2, 1, none⟩ = some (.int .i64 0) := bZ.cell 1 _ rfl
  have cZ2 : u1.cell? ⟨n + 2, 2, none⟩ = some (.int .i64 0) := bZ.cell 2 _ rfl
  have cZ3 : u1.cell? ⟨n + 2, 3, none⟩ = some (.int .i64 0) := bZ.cell 3 _ rfl
  have cZ4 : u1.cell? ⟨n + 2, 4, none⟩ = some (.int .i64 0) := bZ.cell 4 _ rfl
  have cZ5 : u1.cell? ⟨n + 2, 5, none⟩ = some (.int .i64 0) := bZ.cell 5 _ rfl
  have kZ := bZ.lt
  have zZ0 : u1.frozen? ⟨n + 2, 0, none⟩ = false := bZ.f 0
  have zZ1 : u1.frozen? ⟨n + 2, 1, none⟩ = false := bZ.f 1
  have zZ2 : u1.frozen? ⟨n + 2, 2, none⟩ = false := bZ.f 2
  have zZ3 : u1.frozen? ⟨n + 2, 3, none⟩ = false := bZ.f 3
  have zZ4 : u1.frozen? ⟨n + 2, 4, none⟩ = false := bZ.f 4
  have zZ5 : u1.frozen? ⟨n + 2, 5, none⟩ = false := bZ.f 5
  go_wp2
  refine bodyPost_ret (v := .tuple #[.agg #[.int .i64 0, .int .i64 0, .int .i64 0, .int .i64 0, .int .i64 0, .int .i64 0], .int .i64 20]) (by simp [results, Tryz.results22, go_sem, cZ0, zZ0, cZ1, zZ1, cZ2, zZ2, cZ3, zZ3, cZ4, zZ4, cZ5, zZ5, kZ]) rfl ⟨rfl, ?_⟩
  subst hn
  exact below6 hB (show w.heap.size ≤ w.heap.size + 2 by omega) _ _ _ _ _ _
set_option maxRecDepth 100000 in
set_option maxHeartbeats 4000000 in
theorem rCross_no1 (a0 a1 a2 a3 a4 a5 d0 d1 d2 d3 d4 d5 : Int) (ka : ckV a0 a1 a2 a3 a4 a5 = 0) (kd : ckV d0 d1 d2 d3 d4 d5 ≠ 0) (w : World) :
    Calls Tryz.prog 22 #[.agg #[.int .i64 a0, .int .i64 a1, .int .i64 a2, .int .i64 a3, .int .i64 a4, .int .i64 a5], .agg #[.int .i64 d0, .int .i64 d1, .int .i64 d2, .int .i64 d3, .int .i64 d4, .int .i64 d5]] w fun r w' => r = .returned (.tuple #[.agg #[.int .i64 0, .int .i64 0, .int .i64 0, .int .i64 0, .int .i64 0, .int .i64 0], .int .i64 20]) ∧ Below w.heap.size w w' := by
  have g1 := fun w => rRight6_ok a0 a1 a2 a3 a4 a5 ka w
  have g2 := fun w => rRight6_no d0 d1 d2 d3 d4 d5 kd w
  clear ka kd
  have bX0 := Bn.new w #[.int .i64 a0, .int .i64 a1, .int .i64 a2, .int .i64 a3, .int .i64 a4, .int .i64 a5] 25
  replace bX0 := bX0.alloc (.cells #[.int .i64 d0, .int .i64 d1, .int .i64 d2, .int .i64 d3, .int .i64 d4, .int .i64 d5] 25)
  replace bX0 := bX0.alloc (.cells #[.int .i64 0, .int .i64 0, .int .i64 0, .int .i64 0, .int .i64 0, .int .i64 0] 25)
  have bX1 := Bn.new (w.alloc (.cells #[.int .i64 a0, .int .i64 a1, .int .i64 a2, .int .i64 a3, .int .i64 a4, .int .i64 a5] 25)) #[.int .i64 d0, .int .i64 d1, .int .i64 d2, .int .i64 d3, .int .i64 d4, .int .i64 d5] 25
  rw [show (w.alloc (.cells #[.int .i64 a0, .int .i64 a1, .int .i64 a2, .int .i64 a3, .int .i64 a4, .int .i64 a5] 25)).heap.size = w.heap.size + 1 by simp] at bX1
  replace bX1 := bX1.alloc (.cells #[.int .i64 0, .int .i64 0, .int .i64 0, .int .i64 0, .int .i64 0, .int .i64 0] 25)
  have bZ := Bn.new ((w.alloc (.cells #[.int .i64 a0, .int .i64 a1, .int .i64 a2, .int .i64 a3, .int .i64 a4, .int .i64 a5] 25)).alloc (.cells #[.int .i64 d0, .int .i64 d1, .int .i64 d2, .int .i64 d3, .int .i64 d4, .int .i64 d5] 25)) #[.int .i64 0, .int .i64 0, .int .i64 0, .int .i64 0, .int .i64 0, .int .i64 0] 25
  rw [show ((w.alloc (.cells #[.int .i64 a0, .int .i64 a1, .int .i64 a2, .int .i64 a3, .int .i64 a4, .int .i64 a5] 25)).alloc (.cells #[.int .i64 d0, .int .i64 d1, .int .i64 d2, .int .i64 d3, .int .i64 d4, .int .i64 d5] 25)).heap.size = w.heap.size + 2 by simp] at bZ
  have hB : Below w.heap.size w (((w.alloc (.cells #[.int .i64 a0, .int .i64 a1, .int .i64 a2, .int .i64 a3, .int .i64 a4, .int .i64 a5] 25)).alloc (.cells #[.int .i64 d0, .int .i64 d1, .int .i64 d2, .int .i64 d3, .int .i64 d4, .int .i64 d5] 25)).alloc (.cells #[.int .i64 0, .int .i64 0, .int .i64 0, .int .i64 0, .int .i64 0, .int .i64 0] 25)) := by (repeat (first | with_reducible exact Below.refl _ _ | with_reducible assumption | refine Below.alloc ?_ (by (try simp); try omega) _ | refine Below.setCell ?_ (by (try simp); try omega) _ | refine below_drewN ?_ _ | refine Below.drew ?_ | (with_reducible refine Below.trans ?_ (Below.mono (by assumption) (by (try simp); try omega)))))
  generalize hv : (((w.alloc (.cells #[.int .i64 a0, .int .i64 a1, .int .i64 a2, .int .i64 a3, .int .i64 a4, .int .i64 a5] 25)).alloc (.cells #[.int .i64 d0, .int .i64 d1, .int .i64 d2, .int .i64 d3, .int .i64 d4, .int .i64 d5] 25)).alloc (.cells #[.int .i64 0, .int .i64 0, .int .i64 0, .int .i64 0, .int .i64 0, .int .i64 0] 25)) = v0 at *
  generalize hn : w.heap.size = n at *
  have cX00 : v0.cell? ⟨n, 0, none⟩ = some (.int .i64 a0) := bX0.cell 0 _ rfl
  have cX01 : v0.cell? ⟨n, 1, none⟩ = some (.int .i64 a1) := bX0.cell 1 _ rfl
  have cX02 : v0.cell? ⟨n, 2, none⟩ = some (.int .i64 a2) := bX0.cell 2 _ rfl
  have cX03 : v0.cell? ⟨n, 3, none⟩ = some (.int .i64 a3) := bX0.cell 3 _ rfl
  have cX04 : v0.cell? ⟨n, 4, none⟩ = some (.int .i64 a4) := bX0.cell 4 _ rfl
  have cX05 : v0.cell? ⟨n, 5, none⟩ = some (.int .i64 a5) := bX0.cell 5 _ rfl
  have kX0 := bX0.lt
  subst hv
  subst hn
  go_enter Tryz.func22, Tryz.ntmps22
  go_wp2_with fail
  go_at_call 39
  refine (g1 _).mono ?_
  rintro r u1 ⟨rfl, hb⟩
  replace bX0 := bX0.keep hb
  replace bX1 := bX1.keep hb
  replace bZ := bZ.keep hb
  replace hB := hB.trans (hb.mono hB.size)
  clear hb cX00 cX01 cX02 cX03 cX04 cX05 kX0
  generalize hn : w.heap.size = n at *
  have cX10 : u1.cell? ⟨n + 1, 0, none⟩ = some (.int .i64 d0) := bX1.cell 0 _ rfl
  have cX11 : u1.cell? ⟨n + 1, 1, none⟩ = some (.int .i64 d1) := bX1.cell 1 _ rfl
  have cX12 : u1.cell? ⟨n + 1, 2, none⟩ = some (.int .i64 d2) := bX1.cell 2 _ rfl
  have cX13 : u1.cell? ⟨n + 1, 3, none⟩ = some (.int .i64 d3) := bX1.cell 3 _ rfl
  have cX14 : u1.cell? ⟨n + 1, 4, none⟩ = some (.int .i64 d4) := bX1.cell 4 _ rfl
  have cX15 : u1.cell? ⟨n + 1, 5, none⟩ = some (.int .i64 d5) := bX1.cell 5 _ rfl
  have kX1 := bX1.lt
  go_wp2_with fail
  go_at_call 39
  refine (g2 _).mono ?_
  rintro r u2 ⟨rfl, hb⟩
  replace bX0 := bX0.keep hb
  replace bX1 := bX1.keep hb
  replace bZ := bZ.keep hb
  replace hB := hB.trans (hb.mono (by have := hB.size; omega))
  clear hb cX10 cX11 cX12 cX13 cX14 cX15 kX1
  have cZ0 : u2.cell? ⟨n + 2, 0, none⟩ = some (.int .i64 0) := bZ.cell 0 _ rfl
  have cZ1 : u2.cell? ⟨n + 2, 1, none⟩ = some (.int .i64 0) := bZ.cell 1 _ rfl
  have cZ2 : u2.cell? ⟨n + 2, 2, none⟩ = some (.int .i64 0) := bZ.cell 2 _ rfl
  have cZ3 : u2.cell? ⟨n + 2, 3, none⟩ = some (.int .i64 0) := bZ.cell 3 _ rfl
  have cZ4 : u2.cell? ⟨n + 2, 4, none⟩ = some (.int .i64 0) := bZ.cell 4 _ rfl
  have cZ5 : u2.cell? ⟨n + 2, 5, none⟩ = some (.int .i64 0) := bZ.cell 5 _ rfl
  have kZ := bZ.lt
  have zZ0 : u2.frozen? ⟨n + 2, 0, none⟩ = false := bZ.f 0
  have zZ1 : u2.frozen? ⟨n + 2, 1, none⟩ = false := bZ.f 1
  have zZ2 : u2.frozen? ⟨n + 2, 2, none⟩ = false := bZ.f 2
  have zZ3 : u2.frozen? ⟨n + 2, 3, none⟩ = false := bZ.f 3
  have zZ4 : u2.frozen? ⟨n + 2, 4, none⟩ = false := bZ.f 4
  have zZ5 : u2.frozen? ⟨n + 2, 5, none⟩ = false := bZ.f 5
  go_wp2
  refine bodyPost_ret (v := .tuple #[.agg #[.int .i64 0, .int .i64 0, .int .i64 0, .int .i64 0, .int .i64 0, .int .i64 0], .int .i64 20]) (by simp [results, Tryz.results22, go_sem, cZ0, zZ0, cZ1, zZ1, cZ2, zZ2, cZ3, zZ3, cZ4, zZ4, cZ5, zZ5, kZ]) rfl ⟨rfl, ?_⟩
  subst hn
  exact below6 hB (show w.heap.size ≤ w.heap.size + 2 by omega) _ _ _ _ _ _
theorem rCross_any (a0 a1 a2 a3 a4 a5 d0 d1 d2 d3 d4 d5 : Int) (w : World) :
    Calls Tryz.prog 22 #[.agg #[.int .i64 a0, .int .i64 a1, .int .i64 a2, .int .i64 a3, .int .i64 a4, .int .i64 a5], .agg #[.int .i64 d0, .int .i64 d1, .int .i64 d2, .int .i64 d3, .int .i64 d4, .int .i64 d5]] w fun r w' => r = .returned (.tuple #[.agg #[.int .i64 (vCrossR a0 a1 a2 a3 a4 a5 d0 d1 d2 d3 d4 d5).x0, .int .i64 (vCrossR a0 a1 a2 a3 a4 a5 d0 d1 d2 d3 d4 d5).x1, .int .i64 (vCrossR a0 a1 a2 a3 a4 a5 d0 d1 d2 d3 d4 d5).y0, .int .i64 (vCrossR a0 a1 a2 a3 a4 a5 d0 d1 d2 d3 d4 d5).y1, .int .i64 (vCrossR a0 a1 a2 a3 a4 a5 d0 d1 d2 d3 d4 d5).z0, .int .i64 (vCrossR a0 a1 a2 a3 a4 a5 d0 d1 d2 d3 d4 d5).z1], .int .i64 (vCrossR a0 a1 a2 a3 a4 a5 d0 d1 d2 d3 d4 d5).e]) ∧ Below w.heap.size w w' := by
  by_cases ka : ckV a0 a1 a2 a3 a4 a5 = 0
  · by_cases kd : ckV d0 d1 d2 d3 d4 d5 = 0
    · exact rCross_ok a0 a1 a2 a3 a4 a5 d0 d1 d2 d3 d4 d5 ka kd w
    · have t := rCross_no1 a0 a1 a2 a3 a4 a5 d0 d1 d2 d3 d4 d5 ka kd w
      have e : ckV d0 d1 d2 d3 d4 d5 = 20 := by unfold ckV at kd ⊢; split; (rename_i c; rw [if_pos c] at kd; exact absurd rfl kd); rfl
      rw [show vCrossR a0 a1 a2 a3 a4 a5 d0 d1 d2 d3 d4 d5 = ⟨0, 0, 0, 0, 0, 0, 20⟩ from by unfold vCrossR; rw [ka, e]; rfl]
      exact t
  · have t := rCross_no0 a0 a1 a2 a3 a4 a5 d0 d1 d2 d3 d4 d5 ka w
    have e : ckV a0 a1 a2 a3 a4 a5 = 20 := by unfold ckV at ka ⊢; split; (rename_i c; rw [if_pos c] at ka; exact absurd rfl ka); rfl
    rw [show vCrossR a0 a1 a2 a3 a4 a5 d0 d1 d2 d3 d4 d5 = ⟨0, 0, 0, 0, 0, 0, 20⟩ from by unfold vCrossR; rw [e]; rfl]
    exact t
end Go.Proofs.YtnfapdmbkpkkdaaGreat
