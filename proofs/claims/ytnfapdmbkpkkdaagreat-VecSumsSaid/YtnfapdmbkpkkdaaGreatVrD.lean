/-
  The reference of layer 6: Add, Sub, Neg, Scale, Check.
-/
import Derived.Test.YtnfapdmbkpkkdaaGreatVrB
namespace Go.Proofs.YtnfapdmbkpkkdaaGreat
open Go.RowKit

set_option maxRecDepth 100000 in
set_option maxHeartbeats 4000000 in
theorem r6Add_ok (a0 a1 a2 a3 a4 a5 d0 d1 d2 d3 d4 d5 : Int) (ka : ckV a0 a1 a2 a3 a4 a5 = 0) (kd : ckV d0 d1 d2 d3 d4 d5 = 0) (w : World) :
    Calls Tryz.prog 9 #[.agg #[.int .i64 a0, .int .i64 a1, .int .i64 a2, .int .i64 a3, .int .i64 a4, .int .i64 a5], .agg #[.int .i64 d0, .int .i64 d1, .int .i64 d2, .int .i64 d3, .int .i64 d4, .int .i64 d5]] w fun r w' => r = .returned (.tuple #[.agg #[.int .i64 (vAddR a0 a1 a2 a3 a4 a5 d0 d1 d2 d3 d4 d5).x0, .int .i64 (vAddR a0 a1 a2 a3 a4 a5 d0 d1 d2 d3 d4 d5).x1, .int .i64 (vAddR a0 a1 a2 a3 a4 a5 d0 d1 d2 d3 d4 d5).y0, .int .i64 (vAddR a0 a1 a2 a3 a4 a5 d0 d1 d2 d3 d4 d5).y1, .int .i64 (vAddR a0 a1 a2 a3 a4 a5 d0 d1 d2 d3 d4 d5).z0, .int .i64 (vAddR a0 a1 a2 a3 a4 a5 d0 d1 d2 d3 d4 d5).z1], .int .i64 (vAddR a0 a1 a2 a3 a4 a5 d0 d1 d2 d3 d4 d5).e]) ∧ Below w.heap.size w w' := by
  have g1 := fun w => rRight6_ok a0 a1 a2 a3 a4 a5 ka w
  have g2 := fun w => rRight6_ok d0 d1 d2 d3 d4 d5 kd w
  rw [show vAddR a0 a1 a2 a3 a4 a5 d0 d1 d2 d3 d4 d5 = vTold (fo (sAddR a0 a1 d0 d1).2.2 (fo (sAddR a2 a3 d2 d3).2.2 (sAddR a4 a5 d4 d5).2.2)) ⟨(sAddR a0 a1 d0 d1).1, (sAddR a0 a1 d0 d1).2.1, (sAddR a2 a3 d2 d3).1, (sAddR a2 a3 d2 d3).2.1, (sAddR a4 a5 d4 d5).1, (sAddR a4 a5 d4 d5).2.1, 0⟩ from by unfold vAddR vPairR; rw [ka, kd]; rfl]
  clear ka kd
  have h0 := fun w => rAdd_any a0 a1 d0 d1 w
  generalize sAddR a0 a1 d0 d1 = m0 at *
  have h1 := fun w => rAdd_any a2 a3 d2 d3 w
  generalize sAddR a2 a3 d2 d3 = m1 at *
  have h2 := fun w => rAdd_any a4 a5 d4 d5 w
  generalize sAddR a4 a5 d4 d5 = m2 at *
  have ht := fun w => rVector_any m0.1 m0.2.1 m1.1 m1.2.1 m2.1 m2.2.1 m0.2.2 m1.2.2 m2.2.2 w
  generalize vTold (fo m0.2.2 (fo m1.2.2 m2.2.2)) ⟨m0.1, m0.2.1, m1.1, m1.2.1, m2.1, m2.2.1, 0⟩ = t at *
  have bX0 := Bn.new w #[.int .i64 a0, .int .i64 a1, .int .i64 a2, .int .i64 a3, .int .i64 a4, .int .i64 a5] 25
  replace bX0 := bX0.alloc (.cells #[.int .i64 d0, .int .i64 d1, .int .i64 d2, .int .i64 d3, .int .i64 d4, .int .i64 d5] 25)
  replace bX0 := bX0.alloc (.cells #[.int .i64 0, .int .i64 0, .int .i64 0, .int .i64 0, .int .i64 0, .int .i64 0] 25)
  have bX1 := Bn.new (w.alloc (.cells #[.int .i64 a0, .int .i64 a1, .int .i64 a2, .int .i64 a3, .int .i64 a4, .int .i64 a5] 25)) #[.int .i64 d0, .int .i64 d1, .int .i64 d2, .int .i64 d3, .int .i64 d4, .int .i64 d5] 25
  rw [show (w.alloc (.cells #[.int .i64 a0, .int .i64 a1, .int .i64 a2, .int .i64 a3, .int .i64 a4, .int .i64 a5] 25)).heap.size = w.heap.size + 1 by simp] at bX1
  replace bX1 := bX1.alloc (.cells #[.int .i64 0, .int .i64 0, .int .i64 0, .int .i64 0, .int .i64 0, .int .i64 0] 25)
  have bZ := Bn.new ((w.alloc (.cells #[.int .i64 a0, .int .i64 a1, .int .i64 a2, .int .i64 a3, .int .i64 a4, .int .i64 a5] 25)).alloc (.cells #[.int .i64 d0, .int .i64 d1, .int .i64 d2, .int .i64 d3, .int .i64 d4, .int .i64 d5] 25)) #[.int .i64 0, .int .i64 0, .int .i64 0, .int .i64 0, .int .i64 0, .int .i64 0] 25
  rw [show ((w.alloc (.cells #[.int .i64 a0, .int .i64 a1, .int .i64 a2, .int .i64 a3, .int .i64 a4, .int .i64 a5] 25)).alloc (.cells #[.int .i64 d0, .int .i64 d1, .int .i64 d2, .int .i64 d3, .int .i64 d4, .int .i64 d5] 25)).heap.size = w.heap.size + 2 by simp] at bZ
  have hB : Below w.heap.size w (((w.alloc (.cells #[.int .i64 a0, .int .i64 a1, .int .i64 a2, .int .i64 a3, .int .i64 a4, .int .i64 a5] 25)).alloc (.cells #[.int .i64 d0, .int .i64 d1, .int .i64 d2, .int .i64 d3, .int .i64 d4, .int .i64 d5] 25)).alloc (.cells #[.int .i64 0, .int .i64 0, .int .i64 0, .int .i64 0, .int .i64 0, .int .i64 0] 25)) := by (repeat (first | with_reducible exact Below.refl _ _ | with_reducible assumption | refine Below.alloc ?_ (by (try simp); try omega) _ | refine Below.setCell ?_ (by (try simp); try omega) _ | refine below_drewN ?_ _ | refine Below.drew ?_ | (with_reducible refine Below.trans ?_ (Below.mono (by assumption) (by (try simp); try omega)))))
  generalize hv : (((w.alloc (.cells #[.int .i64 a0, .int .i64 a1, .int .i64 a2, .int .i64 a3, .int .i64 a4, .int .i64 a5] 25)).alloc (.cells #[.int .i64 d0, .int .i64 d1, .int .i64 d2, .int .i64 d3, .int .i64 d4, .int .i64 d5] 25)).alloc (.cells #[.int .i64 0, .int .i64 0, .int .i64 0, .int .i64 0, .int .i64 0, .int .i64 0] 25)) = v0 at *
  generalize hn : w.heap.size = n at *
  have cX00 : v0.cell? ⟨n, 0, none⟩ = some (.int .i64 a0) := bX0.cell 0 _ rfl
  have cX01 : v0.cell? ⟨n, 1, none⟩ = some (.int .i64 a1) := bX0.cell 1 _ rfl
  have cX02 : v0.cell? ⟨n, 2, none⟩ = some (.int .i64 a2) := bX0.cell 2 _ rfl
  have cX03 : v0.cell? ⟨n, 3, none⟩ = some (.int .i64 a3) := bX0.cell 3 _ rfl
  have cX04 : v0.cell? ⟨n, 4, none⟩ = some (.int .i64 a4) := bX0.cell 4 _ rfl
  have cX05 : v0.cell? ⟨n, 5, none⟩ = some (.int .i64 a5) := bX0.cell 5 _ rfl
  have kX0 := bX0.lt
  subst hv
  subst hn
  go_enter Tryz.func9, Tryz.ntmps9
  go_wp2_with fail
  go_at_call 39
  refine (g1 _).mono ?_
  rintro r u1 ⟨rfl, hb⟩
  replace bX0 := bX0.keep hb
  replace bX1 := bX1.keep hb
  replace bZ := bZ.keep hb
  replace hB := hB.trans (hb.mono hB.size)
  clear hb cX00 cX01 cX02 cX03 cX04 cX05 kX0
  generalize hn : w.heap.size = n at *
  have cX10 : u1.cell? ⟨n + 1, 0, none⟩ = some (.int .i64 d0) := bX1.cell 0 _ rfl
  have cX11 : u1.cell? ⟨n + 1, 1, none⟩ = some (.int .i64 d1) := bX1.cell 1 _ rfl
  have cX12 : u1.cell? ⟨n + 1, 2, none⟩ = some (.int .i64 d2) := bX1.cell 2 _ rfl
  have cX13 : u1.cell? ⟨n + 1, 3, none⟩ = some (.int .i64 d3) := bX1.cell 3 _ rfl
  have cX14 : u1.cell? ⟨n + 1, 4, none⟩ = some (.int .i64 d4) := bX1.cell 4 _ rfl
  have cX15 : u1.cell? ⟨n + 1, 5, none⟩ = some (.int .i64 d5) := bX1.cell 5 _ rfl
  have kX1 := bX1.lt
  go_wp2_with fail
  go_at_call 39
  refine (g2 _).mono ?_
  rintro r u2 ⟨rfl, hb⟩
  replace bX0 := bX0.keep hb
  replace bX1 := bX1.keep hb
  replace bZ := bZ.keep hb
  replace hB := hB.trans (hb.mono (by have := hB.size; omega))
  clear hb cX10 cX11 cX12 cX13 cX14 cX15 kX1
  have cX00 : u2.cell? ⟨n, 0, none⟩ = some (.int .i64 a0) := bX0.cell 0 _ rfl
  have cX01 : u2.cell? ⟨n, 1, none⟩ = some (.int .i64 a1) := bX0.cell 1 _ rfl
  have cX02 : u2.cell? ⟨n, 2, none⟩ = some (.int .i64 a2) := bX0.cell 2 _ rfl
  have cX03 : u2.cell? ⟨n, 3, none⟩ = some (.int .i64 a3) := bX0.cell 3 _ rfl
  have cX04 : u2.cell? ⟨n, 4, none⟩ = some (.int .i64 a4) := bX0.cell 4 _ rfl
  have cX05 : u2.cell? ⟨n, 5, none⟩ = some (.int .i64 a5) := bX0.cell 5 _ rfl
  have kX0 := bX0.lt
  have cX10 : u2.cell? ⟨n + 1, 0, none⟩ = some (.int .i64 d0) := bX1.cell 0 _ rfl
  have cX11 : u2.cell? ⟨n + 1, 1, none⟩ = some (.int .i64 d1) := bX1.cell 1 _ rfl
  have cX12 : u2.cell? ⟨n + 1, 2, none⟩ = some (.int .i64 d2) := bX1.cell 2 _ rfl
  have cX13 : u2.cell? ⟨n + 1, 3, none⟩ = some (.int .i64 d3) := bX1.cell 3 _ rfl
  have cX14 : u2.cell? ⟨n + 1, 4, none⟩ = some (.int .i64 d4) := bX1.cell 4 _ rfl
  have cX15 : u2.cell? ⟨n + 1, 5, none⟩ = some (.int .i64 d5) := bX1.cell 5 _ rfl
  have kX1 := bX1.lt
  go_wp2_with fail
  go_at_call 40
  refine (h0 _).mono ?_
  rintro r u3 ⟨rfl, hb⟩
  replace bX0 := bX0.keep hb
  replace bX1 := bX1.keep hb
  replace bZ := bZ.keep hb
  replace hB := hB.trans (hb.mono (by have := hB.size; omega))
  clear hb cX00 cX01 cX02 cX03 cX04 cX05 kX0 cX10 cX11 cX12 cX13 cX14 cX15 kX1
  have lX0 := bX0.lt
  have lX1 := bX1.lt
  have lZ := bZ.lt
  have hsz : n ≤ u3.heap.size := by have := hB.size; omega
  try clear oZ oB
  have oZ := bZ
  have oB := hB
  have bM0 := Bn.new u3 #[.int .i64 m0.1, .int .i64 m0.2.1] 23
  replace bX0 := bX0.alloc (.cells #[.int .i64 m0.1, .int .i64 m0.2.1] 23)
  replace bX1 := bX1.alloc (.cells #[.int .i64 m0.1, .int .i64 m0.2.1] 23)
  replace bZ := bZ.alloc (.cells #[.int .i64 m0.1, .int .i64 m0.2.1] 23)
  replace hB := hB.alloc hsz (.cells #[.int .i64 m0.1, .int .i64 m0.2.1] 23)
  have cX00 : (u3.alloc (.cells #[.int .i64 m0.1, .int .i64 m0.2.1] 23)).cell? ⟨n, 0, none⟩ = some (.int .i64 a0) := bX0.cell 0 _ rfl
  have cX01 : (u3.alloc (.cells #[.int .i64 m0.1, .int .i64 m0.2.1] 23)).cell? ⟨n, 1, none⟩ = some (.int .i64 a1) := bX0.cell 1 _ rfl
  have cX02 : (u3.alloc (.cells #[.int .i64 m0.1, .int .i64 m0.2.1] 23)).cell? ⟨n, 2, none⟩ = some (.int .i64 a2) := bX0.cell 2 _ rfl
  have cX03 : (u3.alloc (.cells #[.int .i64 m0.1, .int .i64 m0.2.1] 23)).cell? ⟨n, 3, none⟩ = some (.int .i64 a3) := bX0.cell 3 _ rfl
  have cX04 : (u3.alloc (.cells #[.int .i64 m0.1, .int .i64 m0.2.1] 23)).cell? ⟨n, 4, none⟩ = some (.int .i64 a4) := bX0.cell 4 _ rfl
  have cX05 : (u3.alloc (.cells #[.int .i64 m0.1, .int .i64 m0.2.1] 23)).cell? ⟨n, 5, none⟩ = some (.int .i64 a5) := bX0.cell 5 _ rfl
  have kX0 := bX0.lt
  have cX10 : (u3.alloc (.cells #[.int .i64 m0.1, .int .i64 m0.2.1] 23)).cell? ⟨n + 1, 0, none⟩ = some (.int .i64 d0) := bX1.cell 0 _ rfl
  have cX11 : (u3.alloc (.cells #[.int .i64 m0.1, .int .i64 m0.2.1] 23)).cell? ⟨n + 1, 1, none⟩ = some (.int .i64 d1) := bX1.cell 1 _ rfl
  have cX12 : (u3.alloc (.cells #[.int .i64 m0.1, .int .i64 m0.2.1] 23)).cell? ⟨n + 1, 2, none⟩ = some (.int .i64 d2) := bX1.cell 2 _ rfl
  have cX13 : (u3.alloc (.cells #[.int .i64 m0.1, .int .i64 m0.2.1] 23)).cell? ⟨n + 1, 3, none⟩ = some (.int .i64 d3) := bX1.cell 3 _ rfl
  have cX14 : (u3.alloc (.cells #[.int .i64 m0.1, .int .i64 m0.2.1] 23)).cell? ⟨n + 1, 4, none⟩ = some (.int .i64 d4) := bX1.cell 4 _ rfl
  have cX15 : (u3.alloc (.cells #[.int .i64 m0.1, .int .i64 m0.2.1] 23)).cell? ⟨n + 1, 5, none⟩ = some (.int .i64 d5) := bX1.cell 5 _ rfl
  have kX1 := bX1.lt
  go_wp2_with fail
  go_at_call 40
  refine (h1 _).mono ?_
  rintro r u4 ⟨rfl, hb⟩
  replace bX0 := bX0.keep hb
  replace bX1 := bX1.keep hb
  replace bZ := bZ.keep hb
  replace bM0 := bM0.keep hb
  replace hB := hB.trans (hb.mono (by have := hB.size; omega))
  clear hb cX00 cX01 cX02 cX03 cX04 cX05 kX0 cX10 cX11 cX12 cX13 cX14 cX15 kX1
  generalize u3.heap.size = gM0 at *
  clear hsz
  have lX0 := bX0.lt
  have lX1 := bX1.lt
  have lZ := bZ.lt
  have lM0 := bM0.lt
  have hsz : n ≤ u4.heap.size := by have := hB.size; omega
  try clear oZ oB
  have oZ := bZ
  have oB := hB
  have bM1 := Bn.new u4 #[.int .i64 m1.1, .int .i64 m1.2.1] 23
  replace bX0 := bX0.alloc (.cells #[.int .i64 m1.1, .int .i64 m1.2.1] 23)
  replace bX1 := bX1.alloc (.cells #[.int .i64 m1.1, .int .i64 m1.2.1] 23)
  replace bZ := bZ.alloc (.cells #[.int .i64 m1.1, .int .i64 m1.2.1] 23)
  replace bM0 := bM0.alloc (.cells #[.int .i64 m1.1, .int .i64 m1.2.1] 23)
  replace hB := hB.alloc hsz (.cells #[.int .i64 m1.1, .int .i64 m1.2.1] 23)
  have cX00 : (u4.alloc (.cells #[.int .i64 m1.1, .int .i64 m1.2.1] 23)).cell? ⟨n, 0, none⟩ = some (.int .i64 a0) := bX0.cell 0 _ rfl
  have cX01 : (u4.alloc (.cells #[.int .i64 m1.1, .int .i64 m1.2.1] 23)).cell? ⟨n, 1, none⟩ = some (.int .i64 a1) := bX0.cell 1 _ rfl
  have cX02 : (u4.alloc (.cells #[.int .i64 m1.1, .int .i64 m1.2.1] 23)).cell? ⟨n, 2, none⟩ = some (.int .i64 a2) := bX0.cell 2 _ rfl
  have cX03 : (u4.alloc (.cells #[.int .i64 m1.1, .int .i64 m1.2.1] 23)).cell? ⟨n, 3, none⟩ = some (.int .i64 a3) := bX0.cell 3 _ rfl
  have cX04 : (u4.alloc (.cells #[.int .i64 m1.1, .int .i64 m1.2.1] 23)).cell? ⟨n, 4, none⟩ = some (.int .i64 a4) := bX0.cell 4 _ rfl
  have cX05 : (u4.alloc (.cells #[.int .i64 m1.1, .int .i64 m1.2.1] 23)).cell? ⟨n, 5, none⟩ = some (.int .i64 a5) := bX0.cell 5 _ rfl
  have kX0 := bX0.lt
  have cX10 : (u4.alloc (.cells #[.int .i64 m1.1, .int .i64 m1.2.1] 23)).cell? ⟨n + 1, 0, none⟩ = some (.int .i64 d0) := bX1.cell 0 _ rfl
  have cX11 : (u4.alloc (.cells #[.int .i64 m1.1, .int .i64 m1.2.1] 23)).cell? ⟨n + 1, 1, none⟩ = some (.int .i64 d1) := bX1.cell 1 _ rfl
  have cX12 : (u4.alloc (.cells #[.int .i64 m1.1, .int .i64 m1.2.1] 23)).cell? ⟨n + 1, 2, none⟩ = some (.int .i64 d2) := bX1.cell 2 _ rfl
  have cX13 : (u4.alloc (.cells #[.int .i64 m1.1, .int .i64 m1.2.1] 23)).cell? ⟨n + 1, 3, none⟩ = some (.int .i64 d3) := bX1.cell 3 _ rfl
  have cX14 : (u4.alloc (.cells #[.int .i64 m1.1, .int .i64 m1.2.1] 23)).cell? ⟨n + 1, 4, none⟩ = some (.int .i64 d4) := bX1.cell 4 _ rfl
  have cX15 : (u4.alloc (.cells #[.int .i64 m1.1, .int .i64 m1.2.1] 23)).cell? ⟨n + 1, 5, none⟩ = some (.int .i64 d5) := bX1.cell 5 _ rfl
  have kX1 := bX1.lt
  go_wp2_with fail
  go_at_call 40
  refine (h2 _).mono ?_
  rintro r u5 ⟨rfl, hb⟩
  replace bX0 := bX0.keep hb
  replace bX1 := bX1.keep hb
  replace bZ := bZ.keep hb
  replace bM0 := bM0.keep hb
  replace bM1 := bM1.keep hb
  replace hB := hB.trans (hb.mono (by have := hB.size; omega))
  clear hb cX00 cX01 cX02 cX03 cX04 cX05 kX0 cX10 cX11 cX12 cX13 cX14 cX15 kX1
  generalize u4.heap.size = gM1 at *
  clear hsz
  have lX0 := bX0.lt
  have lX1 := bX1.lt
  have lZ := bZ.lt
  have lM0 := bM0.lt
  have lM1 := bM1.lt
  have hsz : n ≤ u5.heap.size := by have := hB.size; omega
  try clear oZ oB
  have oZ := bZ
  have oB := hB
  have bM2 := Bn.new u5 #[.int .i64 m2.1, .int .i64 m2.2.1] 23
  replace bX0 := bX0.alloc (.cells #[.int .i64 m2.1, .int .i64 m2.2.1] 23)
  replace bX1 := bX1.alloc (.cells #[.int .i64 m2.1, .int .i64 m2.2.1] 23)
  replace bZ := bZ.alloc (.cells #[.int .i64 m2.1, .int .i64 m2.2.1] 23)
  replace bM0 := bM0.alloc (.cells #[.int .i64 m2.1, .int .i64 m2.2.1] 23)
  replace bM1 := bM1.alloc (.cells #[.int .i64 m2.1, .int .i64 m2.2.1] 23)
  replace hB := hB.alloc hsz (.cells #[.int .i64 m2.1, .int .i64 m2.2.1] 23)
  have cM00 : (u5.alloc (.cells #[.int .i64 m2.1, .int .i64 m2.2.1] 23)).cell? ⟨gM0, 0, none⟩ = some (.int .i64 m0.1) := bM0.cell 0 _ rfl
  have cM01 : (u5.alloc (.cells #[.int .i64 m2.1, .int .i64 m2.2.1] 23)).cell? ⟨gM0, 1, none⟩ = some (.int .i64 m0.2.1) := bM0.cell 1 _ rfl
  have kM0 := bM0.lt
  have cM10 : (u5.alloc (.cells #[.int .i64 m2.1, .int .i64 m2.2.1] 23)).cell? ⟨gM1, 0, none⟩ = some (.int .i64 m1.1) := bM1.cell 0 _ rfl
  have cM11 : (u5.alloc (.cells #[.int .i64 m2.1, .int .i64 m2.2.1] 23)).cell? ⟨gM1, 1, none⟩ = some (.int .i64 m1.2.1) := bM1.cell 1 _ rfl
  have kM1 := bM1.lt
  have cM20 : (u5.alloc (.cells #[.int .i64 m2.1, .int .i64 m2.2.1] 23)).cell? ⟨u5.heap.size, 0, none⟩ = some (.int .i64 m2.1) := bM2.cell 0 _ rfl
  have cM21 : (u5.alloc (.cells #[.int .i64 m2.1, .int .i64 m2.2.1] 23)).cell? ⟨u5.heap.size, 1, none⟩ = some (.int .i64 m2.2.1) := bM2.cell 1 _ rfl
  have kM2 := bM2.lt
  go_wp2_with fail
  go_at_call 41
  refine (ht _).mono ?_
  rintro r u6 ⟨rfl, hb⟩
  replace bX0 := bX0.keep hb
  replace bX1 := bX1.keep hb
  replace bZ := bZ.keep hb
  replace bM0 := bM0.keep hb
  replace bM1 := bM1.keep hb
  replace bM2 := bM2.keep hb
  replace hB := hB.trans (hb.mono (by have := hB.size; omega))
  clear hb cM00 cM01 kM0 cM10 cM11 kM1 cM20 cM21 kM2
  generalize u5.heap.size = gM2 at *
  clear hsz
  have cZ0 : u6.cell? ⟨n + 2, 0, none⟩ = some (.int .i64 0) := bZ.cell 0 _ rfl
  have cZ1 : u6.cell? ⟨n + 2, 1, none⟩ = some (.int .i64 0) := bZ.cell 1 _ rfl
  have cZ2 : u6.cell? ⟨n + 2, 2, none⟩ = some (.int .i64 0) := bZ.cell 2 _ rfl
  have cZ3 : u6.cell? ⟨n + 2, 3, none⟩ = some (.int .i64 0) := bZ.cell 3 _ rfl
  have cZ4 : u6.cell? ⟨n + 2, 4, none⟩ = some (.int .i64 0) := bZ.cell 4 _ rfl
  have cZ5 : u6.cell? ⟨n + 2, 5, none⟩ = some (.int .i64 0) := bZ.cell 5 _ rfl
  have kZ := bZ.lt
  have zZ0 : u6.frozen? ⟨n + 2, 0, none⟩ = false := bZ.f 0
  have zZ1 : u6.frozen? ⟨n + 2, 1, none⟩ = false := bZ.f 1
  have zZ2 : u6.frozen? ⟨n + 2, 2, none⟩ = false := bZ.f 2
  have zZ3 : u6.frozen? ⟨n + 2, 3, none⟩ = false := bZ.f 3
  have zZ4 : u6.frozen? ⟨n + 2, 4, none⟩ = false := bZ.f 4
  have zZ5 : u6.frozen? ⟨n + 2, 5, none⟩ = false := bZ.f 5
  go_wp2
  refine bodyPost_ret (v := .tuple #[.agg #[.int .i64 t.x0, .int .i64 t.x1, .int .i64 t.y0, .int .i64 t.y1, .int .i64 t.z0, .int .i64 t.z1], .int .i64 t.e]) (by simp [results, Tryz.results9, go_sem, cZ0, zZ0, cZ1, zZ1, cZ2, zZ2, cZ3, zZ3, cZ4, zZ4, cZ5, zZ5, kZ]) rfl ⟨rfl, ?_⟩
  subst hn
  exact below6 hB (show w.heap.size ≤ w.heap.size + 2 by omega) _ _ _ _ _ _
set_option maxRecDepth 100000 in
set_option maxHeartbeats 4000000 in
theorem r6Add_no0 (a0 a1 a2 a3 a4 a5 d0 d1 d2 d3 d4 d5 : Int) (ka : ckV a0 a1 a2 a3 a4 a5 ≠ 0) (w : World) :
    Calls Tryz.prog 9 #[.agg #[.int .i64 a0, .int .i64 a1, .int .i64 a2, .int .i64 a3, .int .i64 a4, .int .i64 a5], .agg #[.int .i64 d0, .int .i64 d1, .int .i64 d2, .int .i64 d3, .int .i64 d4, .int .i64 d5]] w fun r w' => r = .returned (.tuple #[.agg #[.int .i64 0, .int .i64 0, .int .i64 0, .int .i64 0, .int .i64 0, .int .i64 0], .int .i64 20]) ∧ Below w.heap.size w w' := by
  have g1 := fun w => rRight6_no a0 a1 a2 a3 a4 a5 ka w
  clear ka
  have bX0 := Bn.new w #[.int .i64 a0, .int .i64 a1, .int .i64 a2, .int .i64 a3, .int .i64 a4, .int .i64 a5] 25
  replace bX0 := bX0.alloc (.cells #[.int .i64 d0, .int .i64 d1, .int .i64 d2, .int .i64 d3, .int .i64 d4, .int .i64 d5] 25)
  replace bX0 := bX0.alloc (.cells #[.int .i64 0, .int .i64 0, .int .i64 0, .int .i64 0, .int .i64 0, .int .i64 0] 25)
  have bX1 := Bn.new (w.alloc (.cells #[.int .i64 a0, .int .i64 a1, .int .i64 a2, .int .i64 a3, .int .i64 a4, .int .i64 a5] 25)) #[.int .i64 d0, .int .i64 d1, .int .i64 d2, .int .i64 d3, .int .i64 d4, .int .i64 d5] 25
  rw [show (w.alloc (.cells #[.int .i64 a0, .int .i64 a1, .int .i64 a2, .int .i64 a3, .int .i64 a4, .int .i64 a5] 25)).heap.size = w.heap.size + 1 by simp] at bX1
  replace bX1 := bX1.alloc (.cells #[.int .i64 0, .int .i64 0, .int .i64 0, .int .i64 0, .int .i64 0, .int .i64 0] 25)
  have bZ := Bn.new ((w.alloc (.cells #[.int .i64 a0, .int .i64 a1, .int .i64 a2, .int .i64 a3, .int .i64 a4, .int .i64 a5] 25)).alloc (.cells #[.int .i64 d0, .int .i64 d1, .int .i64 d2, .int .i64 d3, .int .i64 d4, .int .i64 d5] 25)) #[.int .i64 0, .int .i64 0, .int .i64 0, .int .i64 0, .int .i64 0, .int .i64 0] 25
  rw [show ((w.alloc (.cells #[.int .i64 a0, .int .i64 a1, .int .i64 a2, .int .i64 a3, .int .i64 a4, .int .i64 a5] 25)).alloc (.cells #[.int .i64 d0, .int .i64 d1, .int .i64 d2, .int .i64 d3, .int .i64 d4, .int .i64 d5] 25)).heap.size = w.heap.size + 2 by simp] at bZ
  have hB : Below w.heap.size w (((w.alloc (.cells #[.int .i64 a0, .int .i64 a1, .int .i64 a2, .int .i64 a3, .int .i64 a4, .int .i64 a5] 25)).alloc (.cells #[.int .i64 d0, .int .i64 d1, .int .i64 d2, .int .i64 d3, .int .i64 d4, .int .i64 d5] 25)).alloc (.cells #[.int .i64 0, .int .i64 0, .int .i64 0, .int .i64 0, .int .i64 0, .int .i64 0] 25)) := by (repeat (first | with_reducible exact Below.refl _ _ | with_reducible assumption | refine Below.alloc ?_ (by (try simp); try omega) _ | refine Below.setCell ?_ (by (try simp); try omega) _ | refine below_drewN ?_ _ | refine Below.drew ?_ | (with_reducible refine Below.trans ?_ (Below.mono (by assumption) (by (try simp); try omega)))))
  generalize hv : (((w.alloc (.cells #[.int .i64 a0, .int .i64 a1, .int .i64 a2, .int .i64 a3, .int .i64 a4, .int .i64 a5] 25)).alloc (.cells #[.int .i64 d0, .int .i64 d1, .int .i64 d2, .int .i64 d3, .int .i64 d4, .int .i64 d5] 25)).alloc (.cells #[.int .i64 0, .int .i64 0, .int .i64 0, .int .i64 0, .int .i64 0, .int .i64 0] 25)) = v0 at *
  generalize hn : w.heap.size = n at *
  have cX00 : v0.cell? ⟨n, 0, none⟩ = some (.int .i64 a0) := bX0.cell 0 _ rfl
  have cX01 : v0.cell? ⟨n, 1, none⟩ = some (.int .i64 a1) := bX0.cell 1 _ rfl
  have cX02 : v0.cell? ⟨n, 2, none⟩ = some (.int .i64 a2) := bX0.cell 2 _ rfl
  have cX03 : v0.cell? ⟨n, 3, none⟩ = some (.int .i64 a3) := bX0.cell 3 _ rfl
  have cX04 : v0.cell? ⟨n, 4, none⟩ = some (.int .i64 a4) := bX0.cell 4 _ rfl
  have cX05 : v0.cell? ⟨n, 5, none⟩ = some (.int .i64 a5) := bX0.cell 5 _ rfl
  have kX0 := bX0.lt
  subst hv
  subst hn
  go_enter Tryz.func9, Tryz.ntmps9
  go_wp2_with fail
  go_at_call 39
  refine (g1 _).mono ?_
  rintro r u1 ⟨rfl, hb⟩
  replace bX0 := bX0.keep hb
  replace bX1 := bX1.keep hb
  replace bZ := bZ.keep hb
  replace hB := hB.trans (hb.mono hB.size)
  clear hb cX00 cX01 cX02 cX03 cX04 cX05 kX0
  generalize hn : w.heap.size = n at *
  have cZ0 : u1.cell? ⟨n + 2, 0, none⟩ = some (.int .i64 0) := bZ.cell 0 _ rfl
  have cZ1 : u1.cell? ⟨n + 2, 1, none⟩ = some (.int .i64 0) := bZ.cell 1 _ rfl
  have cZ2 : u1.cell? ⟨n + 2, 2, none⟩ = some (.int .i64 0) := bZ.cell 2 _ rfl
  have cZ3 : u1.cell? ⟨n + 2, 3, none⟩ = some (.int .i64 0) := bZ.cell 3 _ rfl
  have cZ4 : u1.cell? ⟨n + 2, 4, none⟩ = some (.int .i64 0) := bZ.cell 4 _ rfl
  have cZ5 : u1.cell? ⟨n + 2, 5, none⟩ = some (.int .i64 0) := bZ.cell 5 _ rfl
  have kZ := bZ.lt
  have zZ0 : u1.frozen? ⟨n + 2, 0, none⟩ = false := bZ.f 0
  have zZ1 : u1.frozen? ⟨n + 2, 1, none⟩ = false := bZ.f 1
  have zZ2 : u1.frozen? ⟨n + 2, 2, none⟩ = false := bZ.f 2
  have zZ3 : u1.frozen? ⟨n + 2, 3, none⟩ = false := bZ.f 3
  have zZ4 : u1.frozen? ⟨n + 2, 4, none⟩ = false := bZ.f 4
  have zZ5 : u1.frozen? ⟨n + 2, 5, none⟩ = false := bZ.f 5
  go_wp2
  refine bodyPost_ret (v := .tuple #[.agg #[.int .i64 0, .int .i64 0, .int .i64 0, .int .i64 0, .int .i64 0, .int .i64 0], .int .i64 20]) (by simp [results, Tryz.results9, go_sem, cZ0, zZ0, cZ1, zZ1, cZ2, zZ2, cZ3, zZ3, cZ4, zZ4, cZ5, zZ5, kZ]) rfl ⟨rfl, ?_⟩
  subst hn
  exact below6 hB (show w.heap.size ≤ w.heap.size + 2 by omega) _ _ _ _ _ _
set_option maxRecDepth 100000 in
set_option maxHeartbeats 4000000 in
theorem r6Add_no1 (a0 a1 a2 a3 a4 a5 d0 d1 d2 d3 d4 d5 : Int) (ka : ckV a0 a1 a2 a3 a4 a5 = 0) (kd : ckV d0 d1 d2 d3 d4 d5 ≠ 0) (w : World) :
    Calls Tryz.prog 9 #[.agg #[.int .i64 a0, .int .i64 a1, .int .i64 a2, .int .i64 a3, .int .i64 a4, .int .i64 a5], .agg #[.int .i64 d0, .int .i64 d1, .int .i64 d2, .int .i64 d3, .int .i64 d4, .int .i64 d5]] w fun r w' => r = .returned (.tuple #[.agg #[.int .i64 0, .int .i64 0, .int .i64 0, .int .i64 0, .int .i64 0, .int .i64 0], .int .i64 20]) ∧ Below w.heap.size w w' := by
  have g1 := fun w => rRight6_ok a0 a1 a2 a3 a4 a5 ka w
  have g2 := fun w => rRight6_no d0 d1 d2 d3 d4 d5 kd w
  clear ka kd
  have bX0 := Bn.new w #[.int .i64 a0, .int .i64 a1, .int .i64 a2, .int .i64 a3, .int .i64 a4, .int .i64 a5] 25
  replace bX0 := bX0.alloc (.cells #[.int .i64 d0, .int .i64 d1, .int .i64 d2, .int .i64 d3, .int .i64 d4, .int .i64 d5] 25)
  replace bX0 := bX0.alloc (.cells #[.int .i64 0, .int .i64 0, .int .i64 0, .int .i64 0, .int .i64 0, .int .i64 0] 25)
  have bX1 := Bn.new (w.alloc (.cells #[.int .i64 a0, .int .i64 a1, .int .i64 a2, .int .i64 a3, .int .i64 a4, .int .i64 a5] 25)) #[.int .i64 d0, .int .i64 d1, .int .i64 d2, .int .i64 d3, .int .i64 d4, .int .i64 d5] 25
  rw [show (w.alloc (.cells #[.int .i64 a0, .int .i64 a1, .int .i64 a2, .int .i64 a3, .int .i64 a4, .int .i64 a5] 25)).heap.size = w.heap.size + 1 by simp] at bX1
  replace bX1 := bX1.alloc (.cells #[.int .i64 0, .int .i64 0, .int .i64 0, .int .i64 0, .int .i64 0, .int .i64 0] 25)
  have bZ := Bn.new ((w.alloc (.cells #[.int .i64 a0, .int .i64 a1, .int .i64 a2, .int .i64 a3, .int .i64 a4, .int .i64 a5] 25)).alloc (.cells #[.int .i64 d0, .int .i64 d1, .int .i64 d2, .int .i64 d3, .int .i64 d4, .int .i64 d5] 25)) #[.int .i64 0, .int .i64 0, .int .i64 0, .int .i64 0, .int .i64 0, .int .i64 0] 25
  rw [show ((w.alloc (.cells #[.int .i64 a0, .int .i64 a1, .int .i64 a2, .int .i64 a3, .int .i64 a4, .int .i64 a5] 25)).alloc (.cells #[.int .i64 d0, .int .i64 d1, .int .i64 d2, .int .i64 d3, .int .i64 d4, .int .i64 d5] 25)).heap.size = w.heap.size + 2 by simp] at bZ
  have hB : Below w.heap.size w (((w.alloc (.cells #[.int .i64 a0, .int .i64 a1, .int .i64 a2, .int .i64 a3, .int .i64 a4, .int .i64 a5] 25)).alloc (.cells #[.int .i64 d0, .int .i64 d1, .int .i64 d2, .int .i64 d3, .int .i64 d4, .int .i64 d5] 25)).alloc (.cells #[.int .i64 0, .int .i64 0, .int .i64 0, .int .i64 0, .int .i64 0, .int .i64 0] 25)) := by (repeat (first | with_reducible exact Below.refl _ _ | with_reducible assumption | refine Below.alloc ?_ (by (try simp); try omega) _ | refine Below.setCell ?_ (by (try simp); try omega) _ | refine below_drewN ?_ _ | refine Below.drew ?_ | (with_reducible refine Below.trans ?_ (Below.mono (by assumption) (by (try simp); try omega)))))
  generalize hv : (((w.alloc (.cells #[.int .i64 a0, .int .i64 a1, .int .i64 a2, .int .i64 a3, .int .i64 a4, .int .i64 a5] 25)).alloc (.cells #[.int .i64 d0, .int .i64 d1, .int .i64 d2, .int .i64 d3, .int .i64 d4, .int .i64 d5] 25)).alloc (.cells #[.int .i64 0, .int .i64 0, .int .i64 0, .int .i64 0, .int .i64 0, .int .i64 0] 25)) = v0 at *
  generalize hn : w.heap.size = n at *
  have cX00 : v0.cell? ⟨n, 0, none⟩ = some (.int .i64 a0) := bX0.cell 0 _ rfl
  have cX01 : v0.cell? ⟨n, 1, none⟩ = some (.int .i64 a1) := bX0.cell 1 _ rfl
  have cX02 : v0.cell? ⟨n, 2, none⟩ = some (.int .i64 a2) := bX0.cell 2 _ rfl
  have cX03 : v0.cell? ⟨n, 3, none⟩ = some (.int .i64 a3) := bX0.cell 3 _ rfl
  have cX04 : v0.cell? ⟨n, 4, none⟩ = some (.int .i64 a4) := bX0.cell 4 _ rfl
  have cX05 : v0.cell? ⟨n, 5, none⟩ = some (.int .i64 a5) := bX0.cell 5 _ rfl
  have kX0 := bX0.lt
  subst hv
  subst hn
  go_enter Tryz.func9, Tryz.ntmps9
  go_wp2_with fail
  go_at_call 39
  refine (g1 _).mono ?_
  rintro r u1 ⟨rfl, hb⟩
  replace bX0 := bX0.keep hb
  replace bX1 := bX1.keep hb
  replace bZ := bZ.keep hb
  replace hB := hB.trans (hb.mono hB.size)
  clear hb cX00 cX01 cX02 cX03 cX04 cX05 kX0
  generalize hn : w.heap.size = n at *
  have cX10 : u1.cell? ⟨n + 1, 0, none⟩ = some (.int .i64 d0) := bX1.cell 0 _ rfl
  have cX11 : u1.cell? ⟨n + 1, 1, none⟩ = some (.int .i64 d1) := bX1.cell 1 _ rfl
  have cX12 : u1.cell? ⟨n + 1, 2, none⟩ = some (.int .i64 d2) := bX1.cell 2 _ rfl
  have cX13 : u1.cell? ⟨n + 1, 3, none⟩ = some (.int .i64 d3) := bX1.cell 3 _ rfl
  have cX14 : u1.cell? ⟨n + 1, 4, none⟩ = some (.int .i64 d4) := bX1.cell 4 _ rfl
  have cX15 : u1.cell? ⟨n + 1, 5, none⟩ = some (.int .i64 d5) := bX1.cell 5 _ rfl
  have kX1 := bX1.lt
  go_wp2_with fail
  go_at_call 39
  refine (g2 _).mono ?_
  rintro r u2 ⟨rfl, hb⟩
  replace bX0 := bX0.keep hb
  replace bX1 := bX1.keep hb
  replace bZ := bZ.keep hb
  replace hB := hB.trans (hb.mono (by have := hB.size; omega))
  clear hb cX10 cX11 cX12 cX13 cX14 cX15 kX1
  have cZ0 : u2.cell? ⟨n + 2, 0, none⟩ = some (.int .i64 0) := bZ.cell 0 _ rfl
  have cZ1 : u2.cell? ⟨n + 2, 1, none⟩ = some (.int .i64 0) := bZ.cell 1 _ rfl
  have cZ2 : u2.cell? ⟨n + 2, 2, none⟩ = some (.int .i64 0) := bZ.cell 2 _ rfl
  have cZ3 : u2.cell? ⟨n + 2, 3, none⟩ = some (.int .i64 0) := bZ.cell 3 _ rfl
  have cZ4 : u2.cell? ⟨n + 2, 4, none⟩ = some (.int .i64 0) := bZ.cell 4 _ rfl
  have cZ5 : u2.cell? ⟨n + 2, 5, none⟩ = some (.int .i64 0) := bZ.cell 5 _ rfl
  have kZ := bZ.lt
  have zZ0 : u2.frozen? ⟨n + 2, 0, none⟩ = false := bZ.f 0
  have zZ1 : u2.frozen? ⟨n + 2, 1, none⟩ = false := bZ.f 1
  have zZ2 : u2.frozen? ⟨n + 2, 2, none⟩ = false := bZ.f 2
  have zZ3 : u2.frozen? ⟨n + 2, 3, none⟩ = false := bZ.f 3
  have zZ4 : u2.frozen? ⟨n + 2, 4, none⟩ = false := bZ.f 4
  have zZ5 : u2.frozen? ⟨n + 2, 5, none⟩ = false := bZ.f 5
  go_wp2
  refine bodyPost_ret (v := .tuple #[.agg #[.int .i64 0, .int .i64 0, .int .i64 0, .int .i64 0, .int .i64 0, .int .i64 0], .int .i64 20]) (by simp [results, Tryz.results9, go_sem, cZ0, zZ0, cZ1, zZ1, cZ2, zZ2, cZ3, zZ3, cZ4, zZ4, cZ5, zZ5, kZ]) rfl ⟨rfl, ?_⟩
  subst hn
  exact below6 hB (show w.heap.size ≤ w.heap.size + 2 by omega) _ _ _ _ _ _
theorem r6Add_any (a0 a1 a2 a3 a4 a5 d0 d1 d2 d3 d4 d5 : Int) (w : World) :
    Calls Tryz.prog 9 #[.agg #[.int .i64 a0, .int .i64 a1, .int .i64 a2, .int .i64 a3, .int .i64 a4, .int .i64 a5], .agg #[.int .i64 d0, .int .i64 d1, .int .i64 d2, .int .i64 d3, .int .i64 d4, .int .i64 d5]] w fun r w' => r = .returned (.tuple #[.agg #[.int .i64 (vAddR a0 a1 a2 a3 a4 a5 d0 d1 d2 d3 d4 d5).x0, .int .i64 (vAddR a0 a1 a2 a3 a4 a5 d0 d1 d2 d3 d4 d5).x1, .int .i64 (vAddR a0 a1 a2 a3 a4 a5 d0 d1 d2 d3 d4 d5).y0, .int .i64 (vAddR a0 a1 a2 a3 a4 a5 d0 d1 d2 d3 d4 d5).y1, .int .i64 (vAddR a0 a1 a2 a3 a4 a5 d0 d1 d2 d3 d4 d5).z0, .int .i64 (vAddR a0 a1 a2 a3 a4 a5 d0 d1 d2 d3 d4 d5).z1], .int .i64 (vAddR a0 a1 a2 a3 a4 a5 d0 d1 d2 d3 d4 d5).e]) ∧ Below w.heap.size w w' := by
  by_cases ka : ckV a0 a1 a2 a3 a4 a5 = 0
  · by_cases kd : ckV d0 d1 d2 d3 d4 d5 = 0
    · exact r6Add_ok a0 a1 a2 a3 a4 a5 d0 d1 d2 d3 d4 d5 ka kd w
    · have t := r6Add_no1 a0 a1 a2 a3 a4 a5 d0 d1 d2 d3 d4 d5 ka kd w
      have e : ckV d0 d1 d2 d3 d4 d5 = 20 := by unfold ckV at kd ⊢; split; (rename_i c; rw [if_pos c] at kd; exact absurd rfl kd); rfl
      rw [show vAddR a0 a1 a2 a3 a4 a5 d0 d1 d2 d3 d4 d5 = ⟨0, 0, 0, 0, 0, 0, 20⟩ from by unfold vAddR; rw [ka, e]; rfl]
      exact t
  · have t := r6Add_no0 a0 a1 a2 a3 a4 a5 d0 d1 d2 d3 d4 d5 ka w
    have e : ckV a0 a1 a2 a3 a4 a5 = 20 := by unfold ckV at ka ⊢; split; (rename_i c; rw [if_pos c] at ka; exact absurd rfl ka); rfl
    rw [show vAddR a0 a1 a2 a3 a4 a5 d0 d1 d2 d3 d4 d5 = ⟨0, 0, 0, 0, 0, 0, 20⟩ from by unfold vAddR; rw [e]; rfl]
    exact t
set_option maxRecDepth 100000 in
set_option maxHeartbeats 4000000 in
theorem r6Sub_ok (a0 a1 a2 a3 a4 a5 d0 d1 d2 d3 d4 d5 : Int) (ka : ckV a0 a1 a2 a3 a4 a5 = 0) (kd : ckV d0 d1 d2 d3 d4 d5 = 0) (w : World) :
    Calls Tryz.prog 11 #[.agg #[.int .i64 a0, .int .i64 a1, .int .i64 a2, .int .i64 a3, .int .i64 a4, .int .i64 a5], .agg #[.int .i64 d0, .int .i64 d1, .int .i64 d2, .int .i64 d3, .int .i64 d4, .int .i64 d5]] w fun r w' => r = .returned (.tuple #[.agg #[.int .i64 (vSubR a0 a1 a2 a3 a4 a5 d0 d1 d2 d3 d4 d5).x0, .int .i64 (vSubR a0 a1 a2 a3 a4 a5 d0 d1 d2 d3 d4 d5).x1, .int .i64 (vSubR a0 a1 a2 a3 a4 a5 d0 d1 d2 d3 d4 d5).y0, .int .i64 (vSubR a0 a1 a2 a3 a4 a5 d0 d1 d2 d3 d4 d5).y1, .int .i64 (vSubR a0 a1 a2 a3 a4 a5 d0 d1 d2 d3 d4 d5).z0, .int .i64 (vSubR a0 a1 a2 a3 a4 a5 d0 d1 d2 d3 d4 d5).z1], .int .i64 (vSubR a0 a1 a2 a3 a4 a5 d0 d1 d2 d3 d4 d5).e]) ∧ Below w.heap.size w w' := by
  have g1 := fun w => rRight6_ok a0 a1 a2 a3 a4 a5 ka w
  have g2 := fun w => rRight6_ok d0 d1 d2 d3 d4 d5 kd w
  rw [show vSubR a0 a1 a2 a3 a4 a5 d0 d1 d2 d3 d4 d5 = vTold (fo (sSubR a0 a1 d0 d1).2.2 (fo (sSubR a2 a3 d2 d3).2.2 (sSubR a4 a5 d4 d5).2.2)) ⟨(sSubR a0 a1 d0 d1).1, (sSubR a0 a1 d0 d1).2.1, (sSubR a2 a3 d2 d3).1, (sSubR a2 a3 d2 d3).2.1, (sSubR a4 a5 d4 d5).1, (sSubR a4 a5 d4 d5).2.1, 0⟩ from by unfold vSubR vPairR; rw [ka, kd]; rfl]
  clear ka kd
  have h0 := fun w => rSub_any a0 a1 d0 d1 w
  generalize sSubR a0 a1 d0 d1 = m0 at *
  have h1 := fun w => rSub_any a2 a3 d2 d3 w
  generalize sSubR a2 a3 d2 d3 = m1 at *
  have h2 := fun w => rSub_any a4 a5 d4 d5 w
  generalize sSubR a4 a5 d4 d5 = m2 at *
  have ht := fun w => rVector_any m0.1 m0.2.1 m1.1 m1.2.1 m2.1 m2.2.1 m0.2.2 m1.2.2 m2.2.2 w
  generalize vTold (fo m0.2.2 (fo m1.2.2 m2.2.2)) ⟨m0.1, m0.2.1, m1.1, m1.2.1, m2.1, m2.2.1, 0⟩ = t at *
  have bX0 := Bn.new w #[.int .i64 a0, .int .i64 a1, .int .i64 a2, .int .i64 a3, .int .i64 a4, .int .i64 a5] 25
  replace bX0 := bX0.alloc (.cells #[.int .i64 d0, .int .i64 d1, .int .i64 d2, .int .i64 d3, .int .i64 d4, .int .i64 d5] 25)
  replace bX0 := bX0.alloc (.cells #[.int .i64 0, .int .i64 0, .int .i64 0, .int .i64 0, .int .i64 0, .int .i64 0] 25)
  have bX1 := Bn.new (w.alloc (.cells #[.int .i64 a0, .int .i64 a1, .int .i64 a2, .int .i64 a3, .int .i64 a4, .int .i64 a5] 25)) #[.int .i64 d0, .int .i64 d1, .int .i64 d2, .int .i64 d3, .int .i64 d4, .int .i64 d5] 25
  rw [show (w.alloc (.cells #[.int .i64 a0, .int .i64 a1, .int .i64 a2, .int .i64 a3, .int .i64 a4, .int .i64 a5] 25)).heap.size = w.heap.size + 1 by simp] at bX1
  replace bX1 := bX1.alloc (.cells #[.int .i64 0, .int .i64 0, .int .i64 0, .int .i64 0, .int .i64 0, .int .i64 0] 25)
  have bZ := Bn.new ((w.alloc (.cells #[.int .i64 a0, .int .i64 a1, .int .i64 a2, .int .i64 a3, .int .i64 a4, .int .i64 a5] 25)).alloc (.cells #[.int .i64 d0, .int .i64 d1, .int .i64 d2, .int .i64 d3, .int .i64 d4, .int .i64 d5] 25)) #[.int .i64 0, .int .i64 0, .int .i64 0, .int .i64 0, .int .i64 0, .int .i64 0] 25
  rw [show ((w.alloc (.cells #[.int .i64 a0, .int .i64 a1, .int .i64 a2, .int .i64 a3, .int .i64 a4, .int .i64 a5] 25)).alloc (.cells #[.int .i64 d0, .int .i64 d1, .int .i64 d2, .int .i64 d3, .int .i64 d4, .int .i64 d5] 25)).heap.size = w.heap.size + 2 by simp] at bZ
  have hB : Below w.heap.size w (((w.alloc (.cells #[.int .i64 a0, .int .i64 a1, .int .i64 a2, .int .i64 a3, .int .i64 a4, .int .i64 a5] 25)).alloc (.cells #[.int .i64 d0, .int .i64 d1, .int .i64 d2, .int .i64 d3, .int .i64 d4, .int .i64 d5] 25)).alloc (.cells #[.int .i64 0, .int .i64 0, .int .i64 0, .int .i64 0, .int .i64 0, .int .i64 0] 25)) := by (repeat (first | with_reducible exact Below.refl _ _ | with_reducible assumption | refine Below.alloc ?_ (by (try simp); try omega) _ | refine Below.setCell ?_ (by (try simp); try omega) _ | refine below_drewN ?_ _ | refine Below.drew ?_ | (with_reducible refine Below.trans ?_ (Below.mono (by assumption) (by (try simp); try omega)))))
  generalize hv : (((w.alloc (.cells #[.int .i64 a0, .int .i64 a1, .int .i64 a2, .int .i64 a3, .int .i64 a4, .int .i64 a5] 25)).alloc (.cells #[.int .i64 d0, .int .i64 d1, .int .i64 d2, .int .i64 d3, .int .i64 d4, .int .i64 d5] 25)).alloc (.cells #[.int .i64 0, .int .i64 0, .int .i64 0, .int .i64 0, .int .i64 0, .int .i64 0] 25)) = v0 at *
  generalize hn : w.heap.size = n at *
  have cX00 : v0.cell? ⟨n, 0, none⟩ = some (.int .i64 a0) := bX0.cell 0 _ rfl
  have cX01 : v0.cell? ⟨n, 1, none⟩ = some (.int .i64 a1) := bX0.cell 1 _ rfl
  have cX02 : v0.cell? ⟨n, 2, none⟩ = some (.int .i64 a2) := bX0.cell 2 _ rfl
  have cX03 : v0.cell? ⟨n, 3, none⟩ = some (.int .i64 a3) := bX0.cell 3 _ rfl
  have cX04 : v0.cell? ⟨n, 4, none⟩ = some (.int .i64 a4) := bX0.cell 4 _ rfl
  have cX05 : v0.cell? ⟨n, 5, none⟩ = some (.int .i64 a5) := bX0.cell 5 _ rfl
  have kX0 := bX0.lt
  subst hv
  subst hn
  go_enter Tryz.func11, Tryz.ntmps11
  go_wp2_with fail
  go_at_call 39
  refine (g1 _).mono ?_
  rintro r u1 ⟨rfl, hb⟩
  replace bX0 := bX0.keep hb
  replace bX1 := bX1.keep hb
  replace bZ := bZ.keep hb
  replace hB := hB.trans (hb.mono hB.size)
  clear hb cX00 cX01 cX02 cX03 cX04 cX05 kX0
  generalize hn : w.heap.size = n at *
  have cX10 : u1.cell? ⟨n + 1, 0, none⟩ = some (.int .i64 d0) := bX1.cell 0 _ rfl
  have cX11 : u1.cell? ⟨n + 1, 1, none⟩ = some (.int .i64 d1) := bX1.cell 1 _ rfl
  have cX12 : u1.cell? ⟨n + 1, 2, none⟩ = some (.int .i64 d2) := bX1.cell 2 _ rfl
  have cX13 : u1.cell? ⟨n + 1, 3, none⟩ = some (.int .i64 d3) := bX1.cell 3 _ rfl
  have cX14 : u1.cell? ⟨n + 1, 4, none⟩ = some (.int .i64 d4) := bX1.cell 4 _ rfl
  have cX15 : u1.cell? ⟨n + 1, 5, none⟩ = some (.int .i64 d5) := bX1.cell 5 _ rfl
  have kX1 := bX1.lt
  go_wp2_with fail
  go_at_call 39
  refine (g2 _).mono ?_
  rintro r u2 ⟨rfl, hb⟩
  replace bX0 := bX0.keep hb
  replace bX1 := bX1.keep hb
  replace bZ := bZ.keep hb
  replace hB := hB.trans (hb.mono (by have := hB.size; omega))
  clear hb cX10 cX11 cX12 cX13 cX14 cX15 kX1
  have cX00 : u2.cell? ⟨n, 0, none⟩ = some (.int .i64 a0) := bX0.cell 0 _ rfl
  have cX01 : u2.cell? ⟨n, 1, none⟩ = some (.int .i64 a1) := bX0.cell 1 _ rfl
  have cX02 : u2.cell? ⟨n, 2, none⟩ = some (.int .i64 a2) := bX0.cell 2 _ rfl
  have cX03 : u2.cell? ⟨n, 3, none⟩ = some (.int .i64 a3) := bX0.cell 3 _ rfl
  have cX04 : u2.cell? ⟨n, 4, none⟩ = some (.int .i64 a4) := bX0.cell 4 _ rfl
  have cX05 : u2.cell? ⟨n, 5, none⟩ = some (.int .i64 a5) := bX0.cell 5 _ rfl
  have kX0 := bX0.lt
  have cX10 : u2.cell? ⟨n + 1, 0, none⟩ = some (.int .i64 d0) := bX1.cell 0 _ rfl
  have cX11 : u2.cell? ⟨n + 1, 1, none⟩ = some (.int .i64 d1) := bX1.cell 1 _ rfl
  have cX12 : u2.cell? ⟨n + 1, 2, none⟩ = some (.int .i64 d2) := bX1.cell 2 _ rfl
  have cX13 : u2.cell? ⟨n + 1, 3, none⟩ = some (.int .i64 d3) := bX1.cell 3 _ rfl
  have cX14 : u2.cell? ⟨n + 1, 4, none⟩ = some (.int .i64 d4) := bX1.cell 4 _ rfl
  have cX15 : u2.cell? ⟨n + 1, 5, none⟩ = some (.int .i64 d5) := bX1.cell 5 _ rfl
  have kX1 := bX1.lt
  go_wp2_with fail
  go_at_call 43
  refine (h0 _).mono ?_
  rintro r u3 ⟨rfl, hb⟩
  replace bX0 := bX0.keep hb
  replace bX1 := bX1.keep hb
  replace bZ := bZ.keep hb
  replace hB := hB.trans (hb.mono (by have := hB.size; omega))
  clear hb cX00 cX01 cX02 cX03 cX04 cX05 kX0 cX10 cX11 cX12 cX13 cX14 cX15 kX1
  have lX0 := bX0.lt
  have lX1 := bX1.lt
  have lZ := bZ.lt
  have hsz : n ≤ u3.heap.size := by have := hB.size; omega
  try clear oZ oB
  have oZ := bZ
  have oB := hB
  have bM0 := Bn.new u3 #[.int .i64 m0.1, .int .i64 m0.2.1] 23
  replace bX0 := bX0.alloc (.cells #[.int .i64 m0.1, .int .i64 m0.2.1] 23)
  replace bX1 := bX1.alloc (.cells #[.int .i64 m0.1, .int .i64 m0.2.1] 23)
  replace bZ := bZ.alloc (.cells #[.int .i64 m0.1, .int .i64 m0.2.1] 23)
  replace hB := hB.alloc hsz (.cells #[.int .i64 m0.1, .int .i64 m0.2.1] 23)
  have cX00 : (u3.alloc (.cells #[.int .i64 m0.1, .int .i64 m0.2.1] 23)).cell? ⟨n, 0, none⟩ = some (.int .i64 a0) := bX0.cell 0 _ rfl
  have cX01 : (u3.alloc (.cells #[.int .i64 m0.1, .int .i64 m0.2.1] 23)).cell? ⟨n, 1, none⟩ = some (.int .i64 a1) := bX0.cell 1 _ rfl
  have cX02 : (u3.alloc (.cells #[.int .i64 m0.1, .int .i64 m0.2.1] 23)).cell? ⟨n, 2, none⟩ = some (.int .i64 a2) := bX0.cell 2 _ rfl
  have cX03 : (u3.alloc (.cells #[.int .i64 m0.1, .int .i64 m0.2.1] 23)).cell? ⟨n, 3, none⟩ = some (.int .i64 a3) := bX0.cell 3 _ rfl
  have cX04 : (u3.alloc (.cells #[.int .i64 m0.1, .int .i64 m0.2.1] 23)).cell? ⟨n, 4, none⟩ = some (.int .i64 a4) := bX0.cell 4 _ rfl
  have cX05 : (u3.alloc (.cells #[.int .i64 m0.1, .int .i64 m0.2.1] 23)).cell? ⟨n, 5, none⟩ = some (.int .i64 a5) := bX0.cell 5 _ rfl
  have kX0 := bX0.lt
  have cX10 : (u3.alloc (.cells #[.int .i64 m0.1, .int .i64 m0.2.1] 23)).cell? ⟨n + 1, 0, none⟩ = some (.int .i64 d0) := bX1.cell 0 _ rfl
  have cX11 : (u3.alloc (.cells #[.int .i64 m0.1, .int .i64 m0.2.1] 23)).cell? ⟨n + 1, 1, none⟩ = some (.int .i64 d1) := bX1.cell 1 _ rfl
  have cX12 : (u3.alloc (.cells #[.int .i64 m0.1, .int .i64 m0.2.1] 23)).cell? ⟨n + 1, 2, none⟩ = some (.int .i64 d2) := bX1.cell 2 _ rfl
  have cX13 : (u3.alloc (.cells #[.int .i64 m0.1, .int .i64 m0.2.1] 23)).cell? ⟨n + 1, 3, none⟩ = some (.int .i64 d3) := bX1.cell 3 _ rfl
  have cX14 : (u3.alloc (.cells #[.int .i64 m0.1, .int .i64 m0.2.1] 23)).cell? ⟨n + 1, 4, none⟩ = some (.int .i64 d4) := bX1.cell 4 _ rfl
  have cX15 : (u3.alloc (.cells #[.int .i64 m0.1, .int .i64 m0.2.1] 23)).cell? ⟨n + 1, 5, none⟩ = some (.int .i64 d5) := bX1.cell 5 _ rfl
  have kX1 := bX1.lt
  go_wp2_with fail
  go_at_call 43
  refine (h1 _).mono ?_
  rintro r u4 ⟨rfl, hb⟩
  replace bX0 := bX0.keep hb
  replace bX1 := bX1.keep hb
  replace bZ := bZ.keep hb
  replace bM0 := bM0.keep hb
  replace hB := hB.trans (hb.mono (by have := hB.size; omega))
  clear hb cX00 cX01 cX02 cX03 cX04 cX05 kX0 cX10 cX11 cX12 cX13 cX14 cX15 kX1
  generalize u3.heap.size = gM0 at *
  clear hsz
  have lX0 := bX0.lt
  have lX1 := bX1.lt
  have lZ := bZ.lt
  have lM0 := bM0.lt
  have hsz : n ≤ u4.heap.size := by have := hB.size; omega
  try clear oZ oB
  have oZ := bZ
  have oB := hB
  have bM1 := Bn.new u4 #[.int .i64 m1.1, .int .i64 m1.2.1] 23
  replace bX0 := bX0.alloc (.cells #[.int .i64 m1.1, .int .i64 m1.2.1] 23)
  replace bX1 := bX1.alloc (.cells #[.int .i64 m1.1, .int .i64 m1.2.1] 23)
  replace bZ := bZ.alloc (.cells #[.int .i64 m1.1, .int .i64 m1.2.1] 23)
  replace bM0 := bM0.alloc (.cells #[.int .i64 m1.1, .int .i64 m1.2.1] 23)
  replace hB := hB.alloc hsz (.cells #[.int .i64 m1.1, .int .i64 m1.2.1] 23)
  have cX00 : (u4.alloc (.cells #[.int .i64 m1.1, .int .i64 m1.2.1] 23)).cell? ⟨n, 0, none⟩ = some (.int .i64 a0) := bX0.cell 0 _ rfl
  have cX01 : (u4.alloc (.cells #[.int .i64 m1.1, .int .i64 m1.2.1] 23)).cell? ⟨n, 1, none⟩ = some (.int .i64 a1) := bX0.cell 1 _ rfl
  have cX02 : (u4.alloc (.cells #[.int .i64 m1.1, .int .i64 m1.2.1] 23)).cell? ⟨n, 2, none⟩ = some (.int .i64 a2) := bX0.cell 2 _ rfl
  have cX03 : (u4.alloc (.cells #[.int .i64 m1.1, .int .i64 m1.2.1] 23)).cell? ⟨n, 3, none⟩ = some (.int .i64 a3) := bX0.cell 3 _ rfl
  have cX04 : (u4.alloc (.cells #[.int .i64 m1.1, .int .i64 m1.2.1] 23)).cell? ⟨n, 4, none⟩ = some (.int .i64 a4) := bX0.cell 4 _ rfl
  have cX05 : (u4.alloc (.cells #[.int .i64 m1.1, .int .i64 m1.2.1] 23)).cell? ⟨n, 5, none⟩ = some (.int .i64 a5) := bX0.cell 5 _ rfl
  have kX0 := bX0.lt
  have cX10 : (u4.alloc (.cells #[.int .i64 m1.1, .int .i64 m1.2.1] 23)).cell? ⟨n + 1, 0, none⟩ = some (.int .i64 d0) := bX1.cell 0 _ rfl
  have cX11 : (u4.alloc (.cells #[.int .i64 m1.1, .int .i64 m1.2.1] 23)).cell? ⟨n + 1, 1, none⟩ = some (.int .i64 d1) := bX1.cell 1 _ rfl
  have cX12 : (u4.alloc (.cells #[.int .i64 m1.1, .int .i64 m1.2.1] 23)).cell? ⟨n + 1, 2, none⟩ = some (.int .i64 d2) := bX1.cell 2 _ rfl
  have cX13 : (u4.alloc (.cells #[.int .i64 m1.1, .int .i64 m1.2.1] 23)).cell? ⟨n + 1, 3, none⟩ = some (.int .i64 d3) := bX1.cell 3 _ rfl
  have cX14 : (u4.alloc (.cells #[.int .i64 m1.1, .int .i64 m1.2.1] 23)).cell? ⟨n + 1, 4, none⟩ = some (.int .i64 d4) := bX1.cell 4 _ rfl
  have cX15 : (u4.alloc (.cells #[.int .i64 m1.1, .int .i64 m1.2.1] 23)).cell? ⟨n + 1, 5, none⟩ = some (.int .i64 d5) := bX1.cell 5 _ rfl
  have kX1 := bX1.lt
  go_wp2_with fail
  go_at_call 43
  refine (h2 _).mono ?_
  rintro r u5 ⟨rfl, hb⟩
  replace bX0 := bX0.keep hb
  replace bX1 := bX1.keep hb
  replace bZ := bZ.keep hb
  replace bM0 := bM0.keep hb
  replace bM1 := bM1.keep hb
  replace hB := hB.trans (hb.mono (by have := hB.size; omega))
  clear hb cX00 cX01 cX02 cX03 cX04 cX05 kX0 cX10 cX11 cX12 cX13 cX14 cX15 kX1
  generalize u4.heap.size = gM1 at *
  clear hsz
  have lX0 := bX0.lt
  have lX1 := bX1.lt
  have lZ := bZ.lt
  have lM0 := bM0.lt
  have lM1 := bM1.lt
  have hsz : n ≤ u5.heap.size := by have := hB.size; omega
  try clear oZ oB
  have oZ := bZ
  have oB := hB
  have bM2 := Bn.new u5 #[.int .i64 m2.1, .int .i64 m2.2.1] 23
  replace bX0 := bX0.alloc (.cells #[.int .i64 m2.1, .int .i64 m2.2.1] 23)
  replace bX1 := bX1.alloc (.cells #[.int .i64 m2.1, .int .i64 m2.2.1] 23)
  replace bZ := bZ.alloc (.cells #[.int .i64 m2.1, .int .i64 m2.2.1] 23)
  replace bM0 := bM0.alloc (.cells #[.int .i64 m2.1, .int .i64 m2.2.1] 23)
  replace bM1 := bM1.alloc (.cells #[.int .i64 m2.1, .int .i64 m2.2.1] 23)
  replace hB := hB.alloc hsz (.cells #[.int .i64 m2.1, .int .i64 m2.2.1] 23)
  have cM00 : (u5.alloc (.cells #[.int .i64 m2.1, .int .i64 m2.2.1] 23)).cell? ⟨gM0, 0, none⟩ = some (.int .i64 m0.1) := bM0.cell 0 _ rfl
  have cM01 : (u5.alloc (.cells #[.int .i64 m2.1, .int .i64 m2.2.1] 23)).cell? ⟨gM0, 1, none⟩ = some (.int .i64 m0.2.1) := bM0.cell 1 _ rfl
  have kM0 := bM0.lt
  have cM10 : (u5.alloc (.cells #[.int .i64 m2.1, .int .i64 m2.2.1] 23)).cell? ⟨gM1, 0, none⟩ = some (.int .i64 m1.1) := bM1.cell 0 _ rfl
  have cM11 : (u5.alloc (.cells #[.int .i64 m2.1, .int .i64 m2.2.1] 23)).cell? ⟨gM1, 1, none⟩ = some (.int .i64 m1.2.1) := bM1.cell 1 _ rfl
  have kM1 := bM1.lt
  have cM20 : (u5.alloc (.cells #[.int .i64 m2.1, .int .i64 m2.2.1] 23)).cell? ⟨u5.heap.size, 0, none⟩ = some (.int .i64 m2.1) := bM2.cell 0 _ rfl
  have cM21 : (u5.alloc (.cells #[.int .i64 m2.1, .int .i64 m2.2.1] 23)).cell? ⟨u5.heap.size, 1, none⟩ = some (.int .i64 m2.2.1) := bM2.cell 1 _ rfl
  have kM2 := bM2.lt
  go_wp2_with fail
  go_at_call 41
  refine (ht _).mono ?_
  rintro r u6 ⟨rfl, hb⟩
  replace bX0 := bX0.keep hb
  replace bX1 := bX1.keep hb
  replace bZ := bZ.keep hb
  replace bM0 := bM0.keep hb
  replace bM1 := bM1.keep hb
  replace bM2 := bM2.keep hb
  replace hB := hB.trans (hb.mono (by have := hB.size; omega))
  clear hb cM00 cM01 kM0 cM10 cM11 kM1 cM20 cM21 kM2
  generalize u5.heap.size = gM2 at *
  clear hsz
  have cZ0 : u6.cell? ⟨n + 2, 0, none⟩ = some (.int .i64 0) := bZ.cell 0 _ rfl
  have cZ1 : u6.cell? ⟨n + 2, 1, none⟩ = some (.int .i64 0) := bZ.cell 1 _ rfl
  have cZ2 : u6.cell? ⟨n + 2, 2, none⟩ = some (.int .i64 0) := bZ.cell 2 _ rfl
  have cZ3 : u6.cell? ⟨n + 2, 3, none⟩ = some (.int .i64 0) := bZ.cell 3 _ rfl
  have cZ4 : u6.cell? ⟨n + 2, 4, none⟩ = some (.int .i64 0) := bZ.cell 4 _ rfl
  have cZ5 : u6.cell? ⟨n + 2, 5, none⟩ = some (.int .i64 0) := bZ.cell 5 _ rfl
  have kZ := bZ.lt
  have zZ0 : u6.frozen? ⟨n + 2, 0, none⟩ = false := bZ.f 0
  have zZ1 : u6.frozen? ⟨n + 2, 1, none⟩ = false := bZ.f 1
  have zZ2 : u6.frozen? ⟨n + 2, 2, none⟩ = false := bZ.f 2
  have zZ3 : u6.frozen? ⟨n + 2, 3, none⟩ = false := bZ.f 3
  have zZ4 : u6.frozen? ⟨n + 2, 4, none⟩ = false := bZ.f 4
  have zZ5 : u6.frozen? ⟨n + 2, 5, none⟩ = false := bZ.f 5
  go_wp2
  refine bodyPost_ret (v := .tuple #[.agg #[.int .i64 t.x0, .int .i64 t.x1, .int .i64 t.y0, .int .i64 t.y1, .int .i64 t.z0, .int .i64 t.z1], .int .i64 t.e]) (by simp [results, Tryz.results11, go_sem, cZ0, zZ0, cZ1, zZ1, cZ2, zZ2, cZ3, zZ3, cZ4, zZ4, cZ5, zZ5, kZ]) rfl ⟨rfl, ?_⟩
  subst hn
  exact below6 hB (show w.heap.size ≤ w.heap.size + 2 by omega) _ _ _ _ _ _
set_option maxRecDepth 100000 in
set_option maxHeartbeats 4000000 in
theorem r6Sub_no0 (a0 a1 a2 a3 a4 a5 d0 d1 d2 d3 d4 d5 : Int) (ka : ckV a0 a1 a2 a3 a4 a5 ≠ 0) (w : World) :
    Calls Tryz.prog 11 #[.agg #[.int .i64 a0, .int .i64 a1, .int .i64 a2, .int .i64 a3, .int .i64 a4, .int .i64 a5], .agg #[.int .i64 d0, .int .i64 d1, .int .i64 d2, .int .i64 d3, .int .i64 d4, .int .i64 d5]] w fun r w' => r = .returned (.tuple #[.agg #[.int .i64 0, .int .i64 0, .int .i64 0, .int .i64 0, .int .i64 0, .int .i64 0], .int .i64 20]) ∧ Below w.heap.size w w' := by
  have g1 := fun w => rRight6_no a0 a1 a2 a3 a4 a5 ka w
  clear ka
  have bX0 := Bn.new w #[.int .i64 a0, .int .i64 a1, .int .i64 a2, .int .i64 a3, .int .i64 a4, .int .i64 a5] 25
  replace bX0 := bX0.alloc (.cells #[.int .i64 d0, .int .i64 d1, .int .i64 d2, .int .i64 d3, .int .i64 d4, .int .i64 d5] 25)
  replace bX0 := bX0.alloc (.cells #[.int .i64 0, .int .i64 0, .int .i64 0, .int .i64 0, .int .i64 0, .int .i64 0] 25)
  have bX1 := Bn.new (w.alloc (.cells #[.int .i64 a0, .int .i64 a1, .int .i64 a2, .int .i64 a3, .int .i64 a4, .int .i64 a5] 25)) #[.int .i64 d0, .int .i64 d1, .int .i64 d2, .int .i64 d3, .int .i64 d4, .int .i64 d5] 25
  rw [show (w.alloc (.cells #[.int .i64 a0, .int .i64 a1, .int .i64 a2, .int .i64 a3, .int .i64 a4, .int .i64 a5] 25)).heap.size = w.heap.size + 1 by simp] at bX1
  replace bX1 := bX1.alloc (.cells #[.int .i64 0, .int .i64 0, .int .i64 0, .int .i64 0, .int .i64 0, .int .i64 0] 25)
  have bZ := Bn.new ((w.alloc (.cells #[.int .i64 a0, .int .i64 a1, .int .i64 a2, .int .i64 a3, .int .i64 a4, .int .i64 a5] 25)).alloc (.cells #[.int .i64 d0, .int .i64 d1, .int .i64 d2, .int .i64 d3, .int .i64 d4, .int .i64 d5] 25)) #[.int .i64 0, .int .i64 0, .int .i64 0, .int .i64 0, .int .i64 0, .int .i64 0] 25
  rw [show ((w.alloc (.cells #[.int .i64 a0, .int .i64 a1, .int .i64 a2, .int .i64 a3, .int .i64 a4, .int .i64 a5] 25)).alloc (.cells #[.int .i64 d0, .int .i64 d1, .int .i64 d2, .int .i64 d3, .int .i64 d4, .int .i64 d5] 25)).heap.size = w.heap.size + 2 by simp] at bZ
  have hB : Below w.heap.size w (((w.alloc (.cells #[.int .i64 a0, .int .i64 a1, .int .i64 a2, .int .i64 a3, .int .i64 a4, .int .i64 a5] 25)).alloc (.cells #[.int .i64 d0, .int .i64 d1, .int .i64 d2, .int .i64 d3, .int .i64 d4, .int .i64 d5] 25)).alloc (.cells #[.int .i64 0, .int .i64 0, .int .i64 0, .int .i64 0, .int .i64 0, .int .i64 0] 25)) := by (repeat (first | with_reducible exact Below.refl _ _ | with_reducible assumption | refine Below.alloc ?_ (by (try simp); try omega) _ | refine Below.setCell ?_ (by (try simp); try omega) _ | refine below_drewN ?_ _ | refine Below.drew ?_ | (with_reducible refine Below.trans ?_ (Below.mono (by assumption) (by (try simp); try omega)))))
  generalize hv : (((w.alloc (.cells #[.int .i64 a0, .int .i64 a1, .int .i64 a2, .int .i64 a3, .int .i64 a4, .int .i64 a5] 25)).alloc (.cells #[.int .i64 d0, .int .i64 d1, .int .i64 d2, .int .i64 d3, .int .i64 d4, .int .i64 d5] 25)).alloc (.cells #[.int .i64 0, .int .i64 0, .int .i64 0, .int .i64 0, .int .i64 0, .int .i64 0] 25)) = v0 at *
  generalize hn : w.heap.size = n at *
  have cX00 : v0.cell? ⟨n, 0, none⟩ = some (.int .i64 a0) := bX0.cell 0 _ rfl
  have cX01 : v0.cell? ⟨n, 1, none⟩ = some (.int .i64 a1) := bX0.cell 1 _ rfl
  have cX02 : v0.cell? ⟨n, 2, none⟩ = some (.int .i64 a2) := bX0.cell 2 _ rfl
  have cX03 : v0.cell? ⟨n, 3, none⟩ = some (.int .i64 a3) := bX0.cell 3 _ rfl
  have cX04 : v0.cell? ⟨n, 4, none⟩ = some (.int .i64 a4) := bX0.cell 4 _ rfl
  have cX05 : v0.cell? ⟨n, 5, none⟩ = some (.int .i64 a5) := bX0.cell 5 _ rfl
  have kX0 := bX0.lt
  subst hv
  subst hn
  go_enter Tryz.func11, Tryz.ntmps11
  go_wp2_with fail
  go_at_call 39
  refine (g1 _).mono ?_
  rintro r u1 ⟨rfl, hb⟩
  replace bX0 := bX0.keep hb
  replace bX1 := bX1.keep hb
  replace bZ := bZ.keep hb
  replace hB := hB.trans (hb.mono hB.size)
  clear hb cX00 cX01 cX02 cX03 cX04 cX05 kX0
  generalize hn : w.heap.size = n at *
  have cZ0 : u1.cell? ⟨n + 2, 0, none⟩ = some (.int .i64 0) := bZ.cell 0 _ rfl
  have cZ1 : u1.cell? ⟨n + 2, 1, none⟩ = some (.int .i64 0) := bZ.cell 1 _ rfl
  have cZ2 : u1.cell? ⟨n + 2, 2, none⟩ = some (.int .i64 0) := bZ.cell 2 _ rfl
  have cZ3 : u1.cell? ⟨n + 2, 3, none⟩ = some (.int .i64 0) := bZ.cell 3 _ rfl
  have cZ4 : u1.cell? ⟨n + 2, 4, none⟩ = some (.int .i64 0) := bZ.cell 4 _ rfl
  have cZ5 : u1.cell? ⟨n + 2, 5, none⟩ = some (.int .i64 0) := bZ.cell 5 _ rfl
  have kZ := bZ.lt
  have zZ0 : u1.frozen? ⟨n + 2, 0, none⟩ = false := bZ.f 0
  have zZ1 : u1.frozen? ⟨n + 2, 1, none⟩ = false := bZ.f 1
  have zZ2 : u1.frozen? ⟨n + 2, 2, none⟩ = false := bZ.f 2
  have zZ3 : u1.frozen? ⟨n + 2, 3, none⟩ = false := bZ.f 3
  have zZ4 : u1.frozen? ⟨n + 2, 4, none⟩ = false := bZ.f 4
  have zZ5 : u1.frozen? ⟨n + 2, 5, none⟩ = false := bZ.f 5
  go_wp2
  refine bodyPost_ret (v := .tuple #[.agg #[.int .i64 0, .int .i64 0, .int .i64 0, .int .i64 0, .int .i64 0, .int .i64 0], .int .i64 20]) (by simp [results, Tryz.results11, go_sem, cZ0, zZ0, cZ1, zZ1, cZ2, zZ2, cZ3, zZ3, cZ4, zZ4, cZ5, zZ5, kZ]) rfl ⟨rfl, ?_⟩
  subst hn
  exact below6 hB (show w.heap.size ≤ w.heap.size + 2 by omega) _ _ _ _ _ _
set_option maxRecDepth 100000 in
set_option maxHeartbeats 4000000 in
theorem r6Sub_no1 (a0 a1 a2 a3 a4 a5 d0 d1 d2 d3 d4 d5 : Int) (ka : ckV a0 a1 a2 a3 a4 a5 = 0) (kd : ckV d0 d1 d2 d3 d4 d5 ≠ 0) (w : World) :
    Calls Tryz.prog 11 #[.agg #[.int .i64 a0, .int .i64 a1, .int .i64 a2, .int .i64 a3, .int .i64 a4, .int .i64 a5], .agg #[.int .i64 d0, .int .i64 d1, .int .i64 d2, .int .i64 d3, .int .i64 d4, .int .i64 d5]] w fun r w' => r = .returned (.tuple #[.agg #[.int .i64 0, .int .i64 0, .int .i64 0, .int .i64 0, .int .i64 0, .int .i64 0], .int .i64 20]) ∧ Below w.heap.size w w' := by
  have g1 := fun w => rRight6_ok a0 a1 a2 a3 a4 a5 ka w
  have g2 := fun w => rRight6_no d0 d1 d2 d3 d4 d5 kd w
  clear ka kd
  have bX0 := Bn.new w #[.int .i64 a0, .int .i64 a1, .int .i64 a2, .int .i64 a3, .int .i64 a4, .int .i64 a5] 25
  replace bX0 := bX0.alloc (.cells #[.int .i64 d0, .int .i64 d1, .int .i64 d2, .int .i64 d3, .int .i64 d4, .int .i64 d5] 25)
  replace bX0 := bX0.alloc (.cells #[.int .i64 0, .int .i64 0, .int .i64 0, .int .i64 0, .int .i64 0, .int .i64 0] 25)
  have bX1 := Bn.new (w.alloc (.cells #[.int .i64 a0, .int .i64 a1, .int .i64 a2, .int .i64 a3, .int .i64 a4, .int .i64 a5] 25)) #[.int .i64 d0, .int .i64 d1, .int .i64 d2, .int .i64 d3, .int .i64 d4, .int .i64 d5] 25
  rw [show (w.alloc (.cells #[.int .i64 a0, .int .i64 a1, .int .i64 a2, .int .i64 a3, .int .i64 a4, .int .i64 a5] 25)).heap.size = w.heap.size + 1 by simp] at bX1
  replace bX1 := bX1.alloc (.cells #[.int .i64 0, .int .i64 0, .int .i64 0, .int .i64 0, .int .i64 0, .int .i64 0] 25)
  have bZ := Bn.new ((w.alloc (.cells #[.int .i64 a0, .int .i64 a1, .int .i64 a2, .int .i64 a3, .int .i64 a4, .int .i64 a5] 25)).alloc (.cells #[.int .i64 d0, .int .i64 d1, .int .i64 d2, .int .i64 d3, .int .i64 d4, .int .i64 d5] 25)) #[.int .i64 0, .int .i64 0, .int .i64 0, .int .i64 0, .int .i64 0, .int .i64 0] 25
  rw [show ((w.alloc (.cells #[.int .i64 a0, .int .i64 a1, .int .i64 a2, .int .i64 a3, .int .i64 a4, .int .i64 a5] 25)).alloc (.cells #[.int .i64 d0, .int .i64 d1, .int .i64 d2, .int .i64 d3, .int .i64 d4, .int .i64 d5] 25)).heap.size = w.heap.size + 2 by simp] at bZ
  have hB : Below w.heap.size w (((w.alloc (.cells #[.int .i64 a0, .int .i64 a1, .int .i64 a2, .int .i64 a3, .int .i64 a4, .int .i64 a5] 25)).alloc (.cells #[.int .i64 d0, .int .i64 d1, .int .i64 d2, .int .i64 d3, .int .i64 d4, .int .i64 d5] 25)).alloc (.cells #[.int .i64 0, .int .i64 0, .int .i64 0, .int .i64 0, .int .i64 0, .int .i64 0] 25)) := by (repeat (first | with_reducible exact Below.refl _ _ | with_reducible assumption | refine Below.alloc ?_ (by (try simp); try omega) _ | refine Below.setCell ?_ (by (try simp); try omega) _ | refine below_drewN ?_ _ | refine Below.drew ?_ | (with_reducible refine Below.trans ?_ (Below.mono (by assumption) (by (try simp); try omega)))))
  generalize hv : (((w.alloc (.cells #[.int .i64 a0, .int .i64 a1, .int .i64 a2, .int .i64 a3, .int .i64 a4, .int .i64 a5] 25)).alloc (.cells #[.int .i64 d0, .int .i64 d1, .int .i64 d2, .int .i64 d3, .int .i64 d4, .int .i64 d5] 25)).alloc (.cells #[.int .i64 0, .int .i64 0, .int .i64 0, .int .i64 0, .int .i64 0, .int .i64 0] 25)) = v0 at *
  generalize hn : w.heap.size = n at *
  have cX00 : v0.cell? ⟨n, 0, none⟩ = some (.int .i64 a0) := bX0.cell 0 _ rfl
  have cX01 : v0.cell? ⟨n, 1, none⟩ = some (.int .i64 a1) := bX0.cell 1 _ rfl
  have cX02 : v0.cell? ⟨n, 2, none⟩ = some (.int .i64 a2) := bX0.cell 2 _ rfl
  have cX03 : v0.cell? ⟨n, 3, none⟩ = some (.int .i64 a3) := bX0.cell 3 _ rfl
  have cX04 : v0.cell? ⟨n, 4, none⟩ = some (.int .i64 a4) := bX0.cell 4 _ rfl
  have cX05 : v0.cell? ⟨n, 5, none⟩ = some (.int .i64 a5) := bX0.cell 5 _ rfl
  have kX0 := bX0.lt
  subst hv
  subst hn
  go_enter Tryz.func11, Tryz.ntmps11
  go_wp2_with fail
  go_at_call 39
  refine (g1 _).mono ?_
  rintro r u1 ⟨rfl, hb⟩
  replace bX0 := bX0.keep hb
  replace bX1 := bX1.keep hb
  replace bZ := bZ.keep hb
  replace hB := hB.trans (hb.mono hB.size)
  clear hb cX00 cX01 cX02 cX03 cX04 cX05 kX0
  generalize hn : w.heap.size = n at *
  have cX10 : u1.cell? ⟨n + 1, 0, none⟩ = some (.int .i64 d0) := bX1.cell 0 _ rfl
  have cX11 : u1.cell? ⟨n + 1, 1, none⟩ = some (.int .i64 d1) := bX1.cell 1 _ rfl
  have cX12 : u1.cell? ⟨n + 1, 2, none⟩ = some (.int .i64 d2) := bX1.cell 2 _ rfl
  have cX13 : u1.cell? ⟨n + 1, 3, none⟩ = some (.int .i64 d3) := bX1.cell 3 _ rfl
  have cX14 : u1.cell? ⟨n + 1, 4, none⟩ = some (.int .i64 d4) := bX1.cell 4 _ rfl
  have cX15 : u1.cell? ⟨n + 1, 5, none⟩ = some (.int .i64 d5) := bX1.cell 5 _ rfl
  have kX1 := bX1.lt
  go_wp2_with fail
  go_at_call 39
  refine (g2 _).mono ?_
  rintro r u2 ⟨rfl, hb⟩
  replace bX0 := bX0.keep hb
  replace bX1 := bX1.keep hb
  replace bZ := bZ.keep hb
  replace hB := hB.trans (hb.mono (by have := hB.size; omega))
  clear hb cX10 cX11 cX12 cX13 cX14 cX15 kX1
  have cZ0 : u2.cell? ⟨n + 2, 0, none⟩ = some (.int .i64 0) := bZ.cell 0 _ rfl
  have cZ1 : u2.cell? ⟨n + 2, 1, none⟩ = some (.int .i64 0) := bZ.cell 1 _ rfl
  have cZ2 : u2.cell? ⟨n + 2, 2, none⟩ = some (.int .i64 0) := bZ.cell 2 _ rfl
  have cZ3 : u2.cell? ⟨n + 2, 3, none⟩ = some (.int .i64 0) := bZ.cell 3 _ rfl
  have cZ4 : u2.cell? ⟨n + 2, 4, none⟩ = some (.int .i64 0) := bZ.cell 4 _ rfl
  have cZ5 : u2.cell? ⟨n + 2, 5, none⟩ = some (.int .i64 0) := bZ.cell 5 _ rfl
  have kZ := bZ.lt
  have zZ0 : u2.frozen? ⟨n + 2, 0, none⟩ = false := bZ.f 0
  have zZ1 : u2.frozen? ⟨n + 2, 1, none⟩ = false := bZ.f 1
  have zZ2 : u2.frozen? ⟨n + 2, 2, none⟩ = false := bZ.f 2
  have zZ3 : u2.frozen? ⟨n + 2, 3, none⟩ = false := bZ.f 3
  have zZ4 : u2.frozen? ⟨n + 2, 4, none⟩ = false := bZ.f 4
  have zZ5 : u2.frozen? ⟨n + 2, 5, none⟩ = false := bZ.f 5
  go_wp2
  refine bodyPost_ret (v := .tuple #[.agg #[.int .i64 0, .int .i64 0, .int .i64 0, .int .i64 0, .int .i64 0, .int .i64 0], .int .i64 20]) (by simp [results, Tryz.results11, go_sem, cZ0, zZ0, cZ1, zZ1, cZ2, zZ2, cZ3, zZ3, cZ4, zZ4, cZ5, zZ5, kZ]) rfl ⟨rfl, ?_⟩
  subst hn
  exact below6 hB (show w.heap.size ≤ w.heap.size + 2 by omega) _ _ _ _ _ _
theorem r6Sub_any (a0 a1 a2 a3 a4 a5 d0 d1 d2 d3 d4 d5 : Int) (w : World) :
    Calls Tryz.prog 11 #[.agg #[.int .i64 a0, .int .i64 a1, .int .i64 a2, .int .i64 a3, .int .i64 a4, .int .i64 a5], .agg #[.int .i64 d0, .int .i64 d1, .int .i64 d2, .int .i64 d3, .int .i64 d4, .int .i64 d5]] w fun r w' => r = .returned (.tuple #[.agg #[.int .i64 (vSubR a0 a1 a2 a3 a4 a5 d0 d1 d2 d3 d4 d5).x0, .int .i64 (vSubR a0 a1 a2 a3 a4 a5 d0 d1 d2 d3 d4 d5).x1, .int .i64 (vSubR a0 a1 a2 a3 a4 a5 d0 d1 d2 d3 d4 d5).y0, .int .i64 (vSubR a0 a1 a2 a3 a4 a5 d0 d1 d2 d3 d4 d5).y1, .int .i64 (vSubR a0 a1 a2 a3 a4 a5 d0 d1 d2 d3 d4 d5).z0, .int .i64 (vSubR a0 a1 a2 a3 a4 a5 d0 d1 d2 d3 d4 d5).z1], .int .i64 (vSubR a0 a1 a2 a3 a4 a5 d0 d1 d2 d3 d4 d5).e]) ∧ Below w.heap.size w w' := by
  by_cases ka : ckV a0 a1 a2 a3 a4 a5 = 0
  · by_cases kd : ckV d0 d1 d2 d3 d4 d5 = 0
    · exact r6Sub_ok a0 a1 a2 a3 a4 a5 d0 d1 d2 d3 d4 d5 ka kd w
    · have t := r6Sub_no1 a0 a1 a2 a3 a4 a5 d0 d1 d2 d3 d4 d5 ka kd w
      have e : ckV d0 d1 d2 d3 d4 d5 = 20 := by unfold ckV at kd ⊢; split; (rename_i c; rw [if_pos c] at kd; exact absurd rfl kd); rfl
      rw [show vSubR a0 a1 a2 a3 a4 a5 d0 d1 d2 d3 d4 d5 = ⟨0, 0, 0, 0, 0, 0, 20⟩ from by unfold vSubR; rw [ka, e]; rfl]
      exact t
  · have t := r6Sub_no0 a0 a1 a2 a3 a4 a5 d0 d1 d2 d3 d4 d5 ka w
    have e : ckV a0 a1 a2 a3 a4 a5 = 20 := by unfold ckV at ka ⊢; split; (rename_i c; rw [if_pos c] at ka; exact absurd rfl ka); rfl
    rw [show vSubR a0 a1 a2 a3 a4 a5 d0 d1 d2 d3 d4 d5 = ⟨0, 0, 0, 0, 0, 0, 20⟩ from by unfold vSubR; rw [e]; rfl]
    exact t
set_option maxHeartbeats 1000000 in
theorem r6Check_ok (a0 a1 a2 a3 a4 a5 : Int) (ka : ckV a0 a1 a2 a3 a4 a5 = 0) (w : World) :
    Calls Tryz.prog 15 #[.agg #[.int .i64 a0, .int .i64 a1, .int .i64 a2, .int .i64 a3, .int .i64 a4, .int .i64 a5]] w fun r w' => r = .returned (.int .i64 0) ∧ Below w.heap.size w w' := by
  have g1 := fun w => rRight6_ok a0 a1 a2 a3 a4 a5 ka w
  clear ka
  have bA := Bn.new w #[.int .i64 a0, .int .i64 a1, .int .i64 a2, .int .i64 a3, .int .i64 a4, .int .i64 a5] 25
  have hB : Below w.heap.size w (w.alloc (.cells #[.int .i64 a0, .int .i64 a1, .int .i64 a2, .int .i64 a3, .int .i64 a4, .int .i64 a5] 25)) := by (repeat (first | with_reducible exact Below.refl _ _ | with_reducible assumption | refine Below.alloc ?_ (by (try simp); try omega) _ | refine Below.setCell ?_ (by (try simp); try omega) _ | refine below_drewN ?_ _ | refine Below.drew ?_ | (with_reducible refine Below.trans ?_ (Below.mono (by assumption) (by (try simp); try omega)))))
  have c0 : (w.alloc (.cells #[.int .i64 a0, .int .i64 a1, .int .i64 a2, .int .i64 a3, .int .i64 a4, .int .i64 a5] 25)).cell? ⟨w.heap.size, 0, none⟩ = some (.int .i64 a0) := bA.cell 0 _ rfl
  have c1 : (w.alloc (.cells #[.int .i64 a0, .int .i64 a1, .int .i64 a2, .int .i64 a3, .int .i64 a4, .int .i64 a5] 25)).cell? ⟨w.heap.size, 1, none⟩ = some (.int .i64 a1) := bA.cell 1 _ rfl
  have c2 : (w.alloc (.cells #[.int .i64 a0, .int .i64 a1, .int .i64 a2, .int .i64 a3, .int .i64 a4, .int .i64 a5] 25)).cell? ⟨w.heap.size, 2, none⟩ = some (.int .i64 a2) := bA.cell 2 _ rfl
  have c3 : (w.alloc (.cells #[.int .i64 a0, .int .i64 a1, .int .i64 a2, .int .i64 a3, .int .i64 a4, .int .i64 a5] 25)).cell? ⟨w.heap.size, 3, none⟩ = some (.int .i64 a3) := bA.cell 3 _ rfl
  have c4 : (w.alloc (.cells #[.int .i64 a0, .int .i64 a1, .int .i64 a2, .int .i64 a3, .int .i64 a4, .int .i64 a5] 25)).cell? ⟨w.heap.size, 4, none⟩ = some (.int .i64 a4) := bA.cell 4 _ rfl
  have c5 : (w.alloc (.cells #[.int .i64 a0, .int .i64 a1, .int .i64 a2, .int .i64 a3, .int .i64 a4, .int .i64 a5] 25)).cell? ⟨w.heap.size, 5, none⟩ = some (.int .i64 a5) := bA.cell 5 _ rfl
  go_enter Tryz.func15, Tryz.ntmps15
  go_wp2_with fail
  go_at_call 39
  refine (g1 _).mono ?_
  rintro r u1 ⟨rfl, hb⟩
  replace hB := hB.trans (hb.mono hB.size)
  clear hb c0 c1 c2 c3 c4 c5 bA
  go_wp2
  go_ret
  exact ⟨rfl, hB⟩
set_option maxHeartbeats 1000000 in
theorem r6Check_no (a0 a1 a2 a3 a4 a5 : Int) (ka : ckV a0 a1 a2 a3 a4 a5 ≠ 0) (w : World) :
    Calls Tryz.prog 15 #[.agg #[.int .i64 a0, .int .i64 a1, .int .i64 a2, .int .i64 a3, .int .i64 a4, .int .i64 a5]] w fun r w' => r = .returned (.int .i64 20) ∧ Below w.heap.size w w' := by
  have g1 := fun w => rRight6_no a0 a1 a2 a3 a4 a5 ka w
  clear ka
  have bA := Bn.new w #[.int .i64 a0, .int .i64 a1, .int .i64 a2, .int .i64 a3, .int .i64 a4, .int .i64 a5] 25
  have hB : Below w.heap.size w (w.alloc (.cells #[.int .i64 a0, .int .i64 a1, .int .i64 a2, .int .i64 a3, .int .i64 a4, .int .i64 a5] 25)) := by (repeat (first | with_reducible exact Below.refl _ _ | with_reducible assumption | refine Below.alloc ?_ (by (try simp); try omega) _ | refine Below.setCell ?_ (by (try simp); try omega) _ | refine below_drewN ?_ _ | refine Below.drew ?_ | (with_reducible refine Below.trans ?_ (Below.mono (by assumption) (by (try simp); try omega)))))
  have c0 : (w.alloc (.cells #[.int .i64 a0, .int .i64 a1, .int .i64 a2, .int .i64 a3, .int .i64 a4, .int .i64 a5] 25)).cell? ⟨w.heap.size, 0, none⟩ = some (.int .i64 a0) := bA.cell 0 _ rfl
  have c1 : (w.alloc (.cells #[.int .i64 a0, .int .i64 a1, .int .i64 a2, .int .i64 a3, .int .i64 a4, .int .i64 a5] 25)).cell? ⟨w.heap.size, 1, none⟩ = some (.int .i64 a1) := bA.cell 1 _ rfl
  have c2 : (w.alloc (.cells #[.int .i64 a0, .int .i64 a1, .int .i64 a2, .int .i64 a3, .int .i64 a4, .int .i64 a5] 25)).cell? ⟨w.heap.size, 2, none⟩ = some (.int .i64 a2) := bA.cell 2 _ rfl
  have c3 : (w.alloc (.cells #[.int .i64 a0, .int .i64 a1, .int .i64 a2, .int .i64 a3, .int .i64 a4, .int .i64 a5] 25)).cell? ⟨w.heap.size, 3, none⟩ = some (.int .i64 a3) := bA.cell 3 _ rfl
  have c4 : (w.alloc (.cells #[.int .i64 a0, .int .i64 a1, .int .i64 a2, .int .i64 a3, .int .i64 a4, .int .i64 a5] 25)).cell? ⟨w.heap.size, 4, none⟩ = some (.int .i64 a4) := bA.cell 4 _ rfl
  have c5 : (w.alloc (.cells #[.int .i64 a0, .int .i64 a1, .int .i64 a2, .int .i64 a3, .int .i64 a4, .int .i64 a5] 25)).cell? ⟨w.heap.size, 5, none⟩ = some (.int .i64 a5) := bA.cell 5 _ rfl
  go_enter Tryz.func15, Tryz.ntmps15
  go_wp2_with fail
  go_at_call 39
  refine (g1 _).mono ?_
  rintro r u1 ⟨rfl, hb⟩
  replace hB := hB.trans (hb.mono hB.size)
  clear hb c0 c1 c2 c3 c4 c5 bA
  go_wp2
  go_ret
  exact ⟨rfl, hB⟩
theorem r6Check_any (a0 a1 a2 a3 a4 a5 : Int) (w : World) :
    Calls Tryz.prog 15 #[.agg #[.int .i64 a0, .int .i64 a1, .int .i64 a2, .int .i64 a3, .int .i64 a4, .int .i64 a5]] w fun r w' => r = .returned (.int .i64 (ckV a0 a1 a2 a3 a4 a5)) ∧ Below w.heap.size w w' := by
  by_cases ka : ckV a0 a1 a2 a3 a4 a5 = 0
  · rw [ka]; exact r6Check_ok a0 a1 a2 a3 a4 a5 ka w
  · have e : ckV a0 a1 a2 a3 a4 a5 = 20 := by unfold ckV at ka ⊢; split; (rename_i c; rw [if_pos c] at ka; exact absurd rfl ka); rfl
    rw [e]; exact r6Check_no a0 a1 a2 a3 a4 a5 ka w
theorem neg_err (l h : Int) : (sNegR l h).2.2 = ckS l h := by
  unfold sNegR
  rcases ckS_two l h with k | k
  · rw [if_pos k, k]
  · rw [if_neg (by omega), k]
theorem neg_told (a0 a1 a2 a3 a4 a5 : Int) : vNegR a0 a1 a2 a3 a4 a5 = vTold (fo (sNegR a0 a1).2.2 (fo (sNegR a2 a3).2.2 (sNegR a4 a5).2.2)) ⟨(sNegR a0 a1).1, (sNegR a0 a1).2.1, (sNegR a2 a3).1, (sNegR a2 a3).2.1, (sNegR a4 a5).1, (sNegR a4 a5).2.1, 0⟩ := by
  have e : fo (ckV a0 a1 a2 a3 a4 a5) (fo (sNegR a0 a1).2.2 (fo (sNegR a2 a3).2.2 (sNegR a4 a5).2.2)) = fo (sNegR a0 a1).2.2 (fo (sNegR a2 a3).2.2 (sNegR a4 a5).2.2) := by
    rw [neg_err, neg_err, neg_err]
    unfold ckV fo
    rcases ckS_two a0 a1 with k0 | k0 <;> rcases ckS_two a2 a3 with k1 | k1 <;> rcases ckS_two a4 a5 with k2 | k2 <;> simp [k0, k1, k2]
  unfold vNegR vEachR
  simp only []
  rw [e]
  rfl
set_option maxRecDepth 100000 in
set_option maxHeartbeats 4000000 in
theorem r6Neg_any (a0 a1 a2 a3 a4 a5 : Int) (w : World) :
    Calls Tryz.prog 13 #[.agg #[.int .i64 a0, .int .i64 a1, .int .i64 a2, .int .i64 a3, .int .i64 a4, .int .i64 a5]] w fun r w' => r = .returned (.tuple #[.agg #[.int .i64 (vNegR a0 a1 a2 a3 a4 a5).x0, .int .i64 (vNegR a0 a1 a2 a3 a4 a5).x1, .int .i64 (vNegR a0 a1 a2 a3 a4 a5).y0, .int .i64 (vNegR a0 a1 a2 a3 a4 a5).y1, .int .i64 (vNegR a0 a1 a2 a3 a4 a5).z0, .int .i64 (vNegR a0 a1 a2 a3 a4 a5).z1], .int .i64 (vNegR a0 a1 a2 a3 a4 a5).e]) ∧ Below w.heap.size w w' := by
  rw [neg_told a0 a1 a2 a3 a4 a5]
  have h0 := fun w => rNeg_any a0 a1 w
  generalize sNegR a0 a1 = m0 at *
  have h1 := fun w => rNeg_any a2 a3 w
  generalize sNegR a2 a3 = m1 at *
  have h2 := fun w => rNeg_any a4 a5 w
  generalize sNegR a4 a5 = m2 at *
  have ht := fun w => rVector_any m0.1 m0.2.1 m1.1 m1.2.1 m2.1 m2.2.1 m0.2.2 m1.2.2 m2.2.2 w
  generalize vTold (fo m0.2.2 (fo m1.2.2 m2.2.2)) ⟨m0.1, m0.2.1, m1.1, m1.2.1, m2.1, m2.2.1, 0⟩ = t at *
  have bX0 := Bn.new w #[.int .i64 a0, .int .i64 a1, .int .i64 a2, .int .i64 a3, .int .i64 a4, .int .i64 a5] 25
  replace bX0 := bX0.alloc (.cells #[.int .i64 0, .int .i64 0, .int .i64 0, .int .i64 0, .int .i64 0, .int .i64 0] 25)
  have bZ := Bn.new (w.alloc (.cells #[.int .i64 a0, .int .i64 a1, .int .i64 a2, .int .i64 a3, .int .i64 a4, .int .i64 a5] 25)) #[.int .i64 0, .int .i64 0, .int .i64 0, .int .i64 0, .int .i64 0, .int .i64 0] 25
  rw [show (w.alloc (.cells #[.int .i64 a0, .int .i64 a1, .int .i64 a2, .int .i64 a3, .int .i64 a4, .int .i64 a5] 25)).heap.size = w.heap.size + 1 by simp] at bZ
  have hB : Below w.heap.size w ((w.alloc (.cells #[.int .i64 a0, .int .i64 a1, .int .i64 a2, .int .i64 a3, .int .i64 a4, .int .i64 a5] 25)).alloc (.cells #[.int .i64 0, .int .i64 0, .int .i64 0, .int .i64 0, .int .i64 0, .int .i64 0] 25)) := by (repeat (first | with_reducible exact Below.refl _ _ | with_reducible assumption | refine Below.alloc ?_ (by (try simp); try omega) _ | refine Below.setCell ?_ (by (try simp); try omega) _ | refine below_drewN ?_ _ | refine Below.drew ?_ | (with_reducible refine Below.trans ?_ (Below.mono (by assumption) (by (try simp); try omega)))))
  generalize hv : ((w.alloc (.cells #[.int .i64 a0, .int .i64 a1, .int .i64 a2, .int .i64 a3, .int .i64 a4, .int .i64 a5] 25)).alloc (.cells #[.int .i64 0, .int .i64 0, .int .i64 0, .int .i64 0, .int .i64 0, .int .i64 0] 25)) = v0 at *
  generalize hn : w.heap.size = n at *
  have cX00 : v0.cell? ⟨n, 0, none⟩ = some (.int .i64 a0) := bX0.cell 0 _ rfl
  have cX01 : v0.cell? ⟨n, 1, none⟩ = some (.int .i64 a1) := bX0.cell 1 _ rfl
  have cX02 : v0.cell? ⟨n, 2, none⟩ = some (.int .i64 a2) := bX0.cell 2 _ rfl
  have cX03 : v0.cell? ⟨n, 3, none⟩ = some (.int .i64 a3) := bX0.cell 3 _ rfl
  have cX04 : v0.cell? ⟨n, 4, none⟩ = some (.int .i64 a4) := bX0.cell 4 _ rfl
  have cX05 : v0.cell? ⟨n, 5, none⟩ = some (.int .i64 a5) := bX0.cell 5 _ rfl
  have kX0 := bX0.lt
  subst hv
  subst hn
  go_enter Tryz.func13, Tryz.ntmps13
  go_wp2_with fail
  go_at_call 46
  refine (h0 _).mono ?_
  rintro r u1 ⟨rfl, hb⟩
  replace bX0 := bX0.keep hb
  replace bZ := bZ.keep hb
  replace hB := hB.trans (hb.mono hB.size)
  clear hb cX00 cX01 cX02 cX03 cX04 cX05 kX0
  generalize hn : w.heap.size = n at *
  have lX0 := bX0.lt
  have lZ := bZ.lt
  have hsz : n ≤ u1.heap.size := by have := hB.size; omega
  try clear oZ oB
  have oZ := bZ
  have oB := hB
  have bM0 := Bn.new u1 #[.int .i64 m0.1, .int .i64 m0.2.1] 23
  replace bX0 := bX0.alloc (.cells #[.int .i64 m0.1, .int .i64 m0.2.1] 23)
  replace bZ := bZ.alloc (.cells #[.int .i64 m0.1, .int .i64 m0.2.1] 23)
  replace hB := hB.alloc hsz (.cells #[.int .i64 m0.1, .int .i64 m0.2.1] 23)
  have cX00 : (u1.alloc (.cells #[.int .i64 m0.1, .int .i64 m0.2.1] 23)).cell? ⟨n, 0, none⟩ = some (.int .i64 a0) := bX0.cell 0 _ rfl
  have cX01 : (u1.alloc (.cells #[.int .i64 m0.1, .int .i64 m0.2.1] 23)).cell? ⟨n, 1, none⟩ = some (.int .i64 a1) := bX0.cell 1 _ rfl
  have cX02 : (u1.alloc (.cells #[.int .i64 m0.1, .int .i64 m0.2.1] 23)).cell? ⟨n, 2, none⟩ = some (.int .i64 a2) := bX0.cell 2 _ rfl
  have cX03 : (u1.alloc (.cells #[.int .i64 m0.1, .int .i64 m0.2.1] 23)).cell? ⟨n, 3, none⟩ = some (.int .i64 a3) := bX0.cell 3 _ rfl
  have cX04 : (u1.alloc (.cells #[.int .i64 m0.1, .int .i64 m0.2.1] 23)).cell? ⟨n, 4, none⟩ = some (.int .i64 a4) := bX0.cell 4 _ rfl
  have cX05 : (u1.alloc (.cells #[.int .i64 m0.1, .int .i64 m0.2.1] 23)).cell? ⟨n, 5, none⟩ = some (.int .i64 a5) := bX0.cell 5 _ rfl
  have kX0 := bX0.lt
  go_wp2_with fail
  go_at_call 46
  refine (h1 _).mono ?_
  rintro r u2 ⟨rfl, hb⟩
  replace bX0 := bX0.keep hb
  replace bZ := bZ.keep hb
  replace bM0 := bM0.keep hb
  replace hB := hB.trans (hb.mono (by have := hB.size; omega))
  clear hb cX00 cX01 cX02 cX03 cX04 cX05 kX0
  generalize u1.heap.size = gM0 at *
  clear hsz
  have lX0 := bX0.lt
  have lZ := bZ.lt
  have lM0 := bM0.lt
  have hsz : n ≤ u2.heap.size := by have := hB.size; omega
  try clear oZ oB
  have oZ := bZ
  have oB := hB
  have bM1 := Bn.new u2 #[.int .i64 m1.1, .int .i64 m1.2.1] 23
  replace bX0 := bX0.alloc (.cells #[.int .i64 m1.1, .int .i64 m1.2.1] 23)
  replace bZ := bZ.alloc (.cells #[.int .i64 m1.1, .int .i64 m1.2.1] 23)
  replace bM0 := bM0.alloc (.cells #[.int .i64 m1.1, .int .i64 m1.2.1] 23)
  replace hB := hB.alloc hsz (.cells #[.int .i64 m1.1, .int .i64 m1.2.1] 23)
  have cX00 : (u2.alloc (.cells #[.int .i64 m1.1, .int .i64 m1.2.1] 23)).cell? ⟨n, 0, none⟩ = some (.int .i64 a0) := bX0.cell 0 _ rfl
  have cX01 : (u2.alloc (.cells #[.int .i64 m1.1, .int .i64 m1.2.1] 23)).cell? ⟨n, 1, none⟩ = some (.int .i64 a1) := bX0.cell 1 _ rfl
  have cX02 : (u2.alloc (.cells #[.int .i64 m1.1, .int .i64 m1.2.1] 23)).cell? ⟨n, 2, none⟩ = some (.int .i64 a2) := bX0.cell 2 _ rfl
  have cX03 : (u2.alloc (.cells #[.int .i64 m1.1, .int .i64 m1.2.1] 23)).cell? ⟨n, 3, none⟩ = some (.int .i64 a3) := bX0.cell 3 _ rfl
  have cX04 : (u2.alloc (.cells #[.int .i64 m1.1, .int .i64 m1.2.1] 23)).cell? ⟨n, 4, none⟩ = some (.int .i64 a4) := bX0.cell 4 _ rfl
  have cX05 : (u2.alloc (.cells #[.int .i64 m1.1, .int .i64 m1.2.1] 23)).cell? ⟨n, 5, none⟩ = some (.int .i64 a5) := bX0.cell 5 _ rfl
  have kX0 := bX0.lt
  go_wp2_with fail
  go_at_call 46
  refine (h2 _).mono ?_
  rintro r u3 ⟨rfl, hb⟩
  replace bX0 := bX0.keep hb
  replace bZ := bZ.keep hb
  replace bM0 := bM0.keep hb
  replace bM1 := bM1.keep hb
  replace hB := hB.trans (hb.mono (by have := hB.size; omega))
  clear hb cX00 cX01 cX02 cX03 cX04 cX05 kX0
  generalize u2.heap.size = gM1 at *
  clear hsz
  have lX0 := bX0.lt
  have lZ := bZ.lt
  have lM0 := bM0.lt
  have lM1 := bM1.lt
  have hsz : n ≤ u3.heap.size := by have := hB.size; omega
  try clear oZ oB
  have oZ := bZ
  have oB := hB
  have bM2 := Bn.new u3 #[.int .i64 m2.1, .int .i64 m2.2.1] 23
  replace bX0 := bX0.alloc (.cells #[.int .i64 m2.1, .int .i64 m2.2.1] 23)
  replace bZ := bZ.alloc (.cells #[.int .i64 m2.1, .int .i64 m2.2.1] 23)
  replace bM0 := bM0.alloc (.cells #[.int .i64 m2.1, .int .i64 m2.2.1] 23)
  replace bM1 := bM1.alloc (.cells #[.int .i64 m2.1, .int .i64 m2.2.1] 23)
  replace hB := hB.alloc hsz (.cells #[.int .i64 m2.1, .int .i64 m2.2.1] 23)
  have cM00 : (u3.alloc (.cells #[.int .i64 m2.1, .int .i64 m2.2.1] 23)).cell? ⟨gM0, 0, none⟩ = some (.int .i64 m0.1) := bM0.cell 0 _ rfl
  have cM01 : (u3.alloc (.cells #[.int .i64 m2.1, .int .i64 m2.2.1] 23)).cell? ⟨gM0, 1, none⟩ = some (.int .i64 m0.2.1) := bM0.cell 1 _ rfl
  have kM0 := bM0.lt
  have cM10 : (u3.alloc (.cells #[.int .i64 m2.1, .int .i64 m2.2.1] 23)).cell? ⟨gM1, 0, none⟩ = some (.int .i64 m1.1) := bM1.cell 0 _ rfl
  have cM11 : (u3.alloc (.cells #[.int .i64 m2.1, .int .i64 m2.2.1] 23)).cell? ⟨gM1, 1, none⟩ = some (.int .i64 m1.2.1) := bM1.cell 1 _ rfl
  have kM1 := bM1.lt
  have cM20 : (u3.alloc (.cells #[.int .i64 m2.1, .int .i64 m2.2.1] 23)).cell? ⟨u3.heap.size, 0, none⟩ = some (.int .i64 m2.1) := bM2.cell 0 _ rfl
  have cM21 : (u3.alloc (.cells #[.int .i64 m2.1, .int .i64 m2.2.1] 23)).cell? ⟨u3.heap.size, 1, none⟩ = some (.int .i64 m2.2.1) := bM2.cell 1 _ rfl
  have kM2 := bM2.lt
  go_wp2_with fail
  go_at_call 41
  refine (ht _).mono ?_
  rintro r u4 ⟨rfl, hb⟩
  replace bX0 := bX0.keep hb
  replace bZ := bZ.keep hb
  replace bM0 := bM0.keep hb
  replace bM1 := bM1.keep hb
  replace bM2 := bM2.keep hb
  replace hB := hB.trans (hb.mono (by have := hB.size; omega))
  clear hb cM00 cM01 kM0 cM10 cM11 kM1 cM20 cM21 kM2
  generalize u3.heap.size = gM2 at *
  clear hsz
  have cZ0 : u4.cell? ⟨n + 1, 0, none⟩ = some (.int .i64 0) := bZ.cell 0 _ rfl
  have cZ1 : u4.cell? ⟨n + 1, 1, none⟩ = some (.int .i64 0) := bZ.cell 1 _ rfl
  have cZ2 : u4.cell? ⟨n + 1, 2, none⟩ = some (.int .i64 0) := bZ.cell 2 _ rfl
  have cZ3 : u4.cell? ⟨n + 1, 3, none⟩ = some (.int .i64 0) := bZ.cell 3 _ rfl
  have cZ4 : u4.cell? ⟨n + 1, 4, none⟩ = some (.int .i64 0) := bZ.cell 4 _ rfl
  have cZ5 : u4.cell? ⟨n + 1, 5, none⟩ = some (.int .i64 0) := bZ.cell 5 _ rfl
  have kZ := bZ.lt
  have zZ0 : u4.frozen? ⟨n + 1, 0, none⟩ = false := bZ.f 0
  have zZ1 : u4.frozen? ⟨n + 1, 1, none⟩ = false := bZ.f 1
  have zZ2 : u4.frozen? ⟨n + 1, 2, none⟩ = false := bZ.f 2
  have zZ3 : u4.frozen? ⟨n + 1, 3, none⟩ = false := bZ.f 3
  have zZ4 : u4.frozen? ⟨n + 1, 4, none⟩ = false := bZ.f 4
  have zZ5 : u4.frozen? ⟨n + 1, 5, none⟩ = false := bZ.f 5
  go_wp2
  refine bodyPost_ret (v := .tuple #[.agg #[.int .i64 t.x0, .int .i64 t.x1, .int .i64 t.y0, .int .i64 t.y1, .int .i64 t.z0, .int .i64 t.z1], .int .i64 t.e]) (by simp [results, Tryz.results13, go_sem, cZ0, zZ0, cZ1, zZ1, cZ2, zZ2, cZ3, zZ3, cZ4, zZ4, cZ5, zZ5, kZ]) rfl ⟨rfl, ?_⟩
  subst hn
  exact below6 hB (show w.heap.size ≤ w.heap.size + 1 by omega) _ _ _ _ _ _
theorem ckV_same (l h : Int) : ckV l h l h l h = ckS l h := by
  unfold ckV
  rcases ckS_two l h with k | k
  · rw [if_pos ⟨k, k, k⟩, k]
  · rw [if_neg (by omega), k]
set_option maxRecDepth 100000 in
set_option maxHeartbeats 4000000 in
theorem r6Scale_ok (a0 a1 a2 a3 a4 a5 l h : Int) (ka : ckV a0 a1 a2 a3 a4 a5 = 0) (kd : ckS l h = 0) (w : World) :
    Calls Tryz.prog 18 #[.agg #[.int .i64 a0, .int .i64 a1, .int .i64 a2, .int .i64 a3, .int .i64 a4, .int .i64 a5], .agg #[.int .i64 l, .int .i64 h]] w fun r w' => r = .returned (.tuple #[.agg #[.int .i64 (vScaleR a0 a1 a2 a3 a4 a5 l h).x0, .int .i64 (vScaleR a0 a1 a2 a3 a4 a5 l h).x1, .int .i64 (vScaleR a0 a1 a2 a3 a4 a5 l h).y0, .int .i64 (vScaleR a0 a1 a2 a3 a4 a5 l h).y1, .int .i64 (vScaleR a0 a1 a2 a3 a4 a5 l h).z0, .int .i64 (vScaleR a0 a1 a2 a3 a4 a5 l h).z1], .int .i64 (vScaleR a0 a1 a2 a3 a4 a5 l h).e]) ∧ Below w.heap.size w w' := by
  have g1 := fun w => rRight6_ok a0 a1 a2 a3 a4 a5 ka w
  have g2 := fun w => rRight_ok l h kd w
  rw [show vScaleR a0 a1 a2 a3 a4 a5 l h = vTold (fo (sMulR a0 a1 l h).2.2 (fo (sMulR a2 a3 l h).2.2 (sMulR a4 a5 l h).2.2)) ⟨(sMulR a0 a1 l h).1, (sMulR a0 a1 l h).2.1, (sMulR a2 a3 l h).1, (sMulR a2 a3 l h).2.1, (sMulR a4 a5 l h).1, (sMulR a4 a5 l h).2.1, 0⟩ from by unfold vScaleR vPairR; rw [ka, ckV_same, kd]; rfl]
  clear ka kd
  have h0 := fun w => rMul_any a0 a1 l h w
  generalize sMulR a0 a1 l h = m0 at *
  have h1 := fun w => rMul_any a2 a3 l h w
  generalize sMulR a2 a3 l h = m1 at *
  have h2 := fun w => rMul_any a4 a5 l h w
  generalize sMulR a4 a5 l h = m2 at *
  have ht := fun w => rVector_any m0.1 m0.2.1 m1.1 m1.2.1 m2.1 m2.2.1 m0.2.2 m1.2.2 m2.2.2 w
  generalize vTold (fo m0.2.2 (fo m1.2.2 m2.2.2)) ⟨m0.1, m0.2.1, m1.1, m1.2.1, m2.1, m2.2.1, 0⟩ = t at *
  have bX0 := Bn.new w #[.int .i64 a0, .int .i64 a1, .int .i64 a2, .int .i64 a3, .int .i64 a4, .int .i64 a5] 25
  replace bX0 := bX0.alloc (.cells #[.int .i64 l, .int .i64 h] 23)
  replace bX0 := bX0.alloc (.cells #[.int .i64 0, .int .i64 0, .int .i64 0, .int .i64 0, .int .i64 0, .int .i64 0] 25)
  have bX1 := Bn.new (w.alloc (.cells #[.int .i64 a0, .int .i64 a1, .int .i64 a2, .int .i64 a3, .int .i64 a4, .int .i64 a5] 25)) #[.int .i64 l, .int .i64 h] 23
  rw [show (w.alloc (.cells #[.int .i64 a0, .int .i64 a1, .int .i64 a2, .int .i64 a3, .int .i64 a4, .int .i64 a5] 25)).heap.size = w.heap.size + 1 by simp] at bX1
  replace bX1 := bX1.alloc (.cells #[.int .i64 0, .int .i64 0, .int .i64 0, .int .i64 0, .int .i64 0, .int .i64 0] 25)
  have bZ := Bn.new ((w.alloc (.cells #[.int .i64 a0, .int .i64 a1, .int .i64 a2, .int .i64 a3, .int .i64 a4, .int .i64 a5] 25)).alloc (.cells #[.int .i64 l, .int .i64 h] 23)) #[.int .i64 0, .int .i64 0, .int .i64 0, .int .i64 0, .int .i64 0, .int .i64 0] 25
  rw [show ((w.alloc (.cells #[.int .i64 a0, .int .i64 a1, .int .i64 a2, .int .i64 a3, .int .i64 a4, .int .i64 a5] 25)).alloc (.cells #[.int .i64 l, .int .i64 h] 23)).heap.size = w.heap.size + 2 by simp] at bZ
  have hB : Below w.heap.size w (((w.alloc (.cells #[.int .i64 a0, .int .i64 a1, .int .i64 a2, .int .i64 a3, .int .i64 a4, .int .i64 a5] 25)).alloc (.cells #[.int .i64 l, .int .i64 h] 23)).alloc (.cells #[.int .i64 0, .int .i64 0, .int .i64 0, .int .i64 0, .int .i64 0, .int .i64 0] 25)) := by (repeat (first | with_reducible exact Below.refl _ _ | with_reducible assumption | refine Below.alloc ?_ (by (try simp); try omega) _ | refine Below.setCell ?_ (by (try simp); try omega) _ | refine below_drewN ?_ _ | refine Below.drew ?_ | (with_reducible refine Below.trans ?_ (Below.mono (by assumption) (by (try simp); try omega)))))
  generalize hv : (((w.alloc (.cells #[.int .i64 a0, .int .i64 a1, .int .i64 a2, .int .i64 a3, .int .i64 a4, .int .i64 a5] 25)).alloc (.cells #[.int .i64 l, .int .i64 h] 23)).alloc (.cells #[.int .i64 0, .int .i64 0, .int .i64 0, .int .i64 0, .int .i64 0, .int .i64 0] 25)) = v0 at *
  generalize hn : w.heap.size = n at *
  have cX00 : v0.cell? ⟨n, 0, none⟩ = some (.int .i64 a0) := bX0.cell 0 _ rfl
  have cX01 : v0.cell? ⟨n, 1, none⟩ = some (.int .i64 a1) := bX0.cell 1 _ rfl
  have cX02 : v0.cell? ⟨n, 2, none⟩ = some (.int .i64 a2) := bX0.cell 2 _ rfl
  have cX03 : v0.cell? ⟨n, 3, none⟩ = some (.int .i64 a3) := bX0.cell 3 _ rfl
  have cX04 : v0.cell? ⟨n, 4, none⟩ = some (.int .i64 a4) := bX0.cell 4 _ rfl
  have cX05 : v0.cell? ⟨n, 5, none⟩ = some (.int .i64 a5) := bX0.cell 5 _ rfl
  have kX0 := bX0.lt
  subst hv
  subst hn
  go_enter Tryz.func18, Tryz.ntmps18
  go_wp2_with fail
  go_at_call 39
  refine (g1 _).mono ?_
  rintro r u1 ⟨rfl, hb⟩
  replace bX0 := bX0.keep hb
  replace bX1 := bX1.keep hb
  replace bZ := bZ.keep hb
  replace hB := hB.trans (hb.mono hB.size)
  clear hb cX00 cX01 cX02 cX03 cX04 cX05 kX0
  generalize hn : w.heap.size = n at *
  have cX10 : u1.cell? ⟨n + 1, 0, none⟩ = some (.int .i64 l) := bX1.cell 0 _ rfl
  have cX11 : u1.cell? ⟨n + 1, 1, none⟩ = some (.int .i64 h) := bX1.cell 1 _ rfl
  have kX1 := bX1.lt
  go_wp2_with fail
  go_at_call 50
  refine (g2 _).mono ?_
  rintro r u2 ⟨rfl, hb⟩
  replace bX0 := bX0.keep hb
  replace bX1 := bX1.keep hb
  replace bZ := bZ.keep hb
  replace hB := hB.trans (hb.mono (by have := hB.size; omega))
  clear hb cX10 cX11 kX1
  have cX00 : u2.cell? ⟨n, 0, none⟩ = some (.int .i64 a0) := bX0.cell 0 _ rfl
  have cX01 : u2.cell? ⟨n, 1, none⟩ = some (.int .i64 a1) := bX0.cell 1 _ rfl
  have cX02 : u2.cell? ⟨n, 2, none⟩ = some (.int .i64 a2) := bX0.cell 2 _ rfl
  have cX03 : u2.cell? ⟨n, 3, none⟩ = some (.int .i64 a3) := bX0.cell 3 _ rfl
  have cX04 : u2.cell? ⟨n, 4, none⟩ = some (.int .i64 a4) := bX0.cell 4 _ rfl
  have cX05 : u2.cell? ⟨n, 5, none⟩ = some (.int .i64 a5) := bX0.cell 5 _ rfl
  have kX0 := bX0.lt
  have cX10 : u2.cell? ⟨n + 1, 0, none⟩ = some (.int .i64 l) := bX1.cell 0 _ rfl
  have cX11 : u2.cell? ⟨n + 1, 1, none⟩ = some (.int .i64 h) := bX1.cell 1 _ rfl
  have kX1 := bX1.lt
  go_wp2_with fail
  go_at_call 51
  refine (h0 _).mono ?_
  rintro r u3 ⟨rfl, hb⟩
  replace bX0 := bX0.keep hb
  replace bX1 := bX1.keep hb
  replace bZ := bZ.keep hb
  replace hB := hB.trans (hb.mono (by have := hB.size; omega))
  clear hb cX00 cX01 cX02 cX03 cX04 cX05 kX0 cX10 cX11 kX1
  have lX0 := bX0.lt
  have lX1 := bX1.lt
  have lZ := bZ.lt
  have hsz : n ≤ u3.heap.size := by have := hB.size; omega
  try clear oZ oB
  have oZ := bZ
  have oB := hB
  have bM0 := Bn.new u3 #[.int .i64 m0.1, .int .i64 m0.2.1] 23
  replace bX0 := bX0.alloc (.cells #[.int .i64 m0.1, .int .i64 m0.2.1] 23)
  replace bX1 := bX1.alloc (.cells #[.int .i64 m0.1, .int .i64 m0.2.1] 23)
  replace bZ := bZ.alloc (.cells #[.int .i64 m0.1, .int .i64 m0.2.1] 23)
  replace hB := hB.alloc hsz (.cells #[.int .i64 m0.1, .int .i64 m0.2.1] 23)
  have cX00 : (u3.alloc (.cells #[.int .i64 m0.1, .int .i64 m0.2.1] 23)).cell? ⟨n, 0, none⟩ = some (.int .i64 a0) := bX0.cell 0 _ rfl
  have cX01 : (u3.alloc (.cells #[.int .i64 m0.1, .int .i64 m0.2.1] 23)).cell? ⟨n, 1, none⟩ = some (.int .i64 a1) := bX0.cell 1 _ rfl
  have cX02 : (u3.alloc (.cells #[.int .i64 m0.1, .int .i64 m0.2.1] 23)).cell? ⟨n, 2, none⟩ = some (.int .i64 a2) := bX0.cell 2 _ rfl
  have cX03 : (u3.alloc (.cells #[.int .i64 m0.1, .int .i64 m0.2.1] 23)).cell? ⟨n, 3, none⟩ = some (.int .i64 a3) := bX0.cell 3 _ rfl
  have cX04 : (u3.alloc (.cells #[.int .i64 m0.1, .int .i64 m0.2.1] 23)).cell? ⟨n, 4, none⟩ = some (.int .i64 a4) := bX0.cell 4 _ rfl
  have cX05 : (u3.alloc (.cells #[.int .i64 m0.1, .int .i64 m0.2.1] 23)).cell? ⟨n, 5, none⟩ = some (.int .i64 a5) := bX0.cell 5 _ rfl
  have kX0 := bX0.lt
  have cX10 : (u3.alloc (.cells #[.int .i64 m0.1, .int .i64 m0.2.1] 23)).cell? ⟨n + 1, 0, none⟩ = some (.int .i64 l) := bX1.cell 0 _ rfl
  have cX11 : (u3.alloc (.cells #[.int .i64 m0.1, .int .i64 m0.2.1] 23)).cell? ⟨n + 1, 1, none⟩ = some (.int .i64 h) := bX1.cell 1 _ rfl
  have kX1 := bX1.lt
  go_wp2_with fail
  go_at_call 51
  refine (h1 _).mono ?_
  rintro r u4 ⟨rfl, hb⟩
  replace bX0 := bX0.keep hb
  replace bX1 := bX1.keep hb
  replace bZ := bZ.keep hb
  replace bM0 := bM0.keep hb
  replace hB := hB.trans (hb.mono (by have := hB.size; omega))
  clear hb cX00 cX01 cX02 cX03 cX04 cX05 kX0 cX10 cX11 kX1
  generalize u3.heap.size = gM0 at *
  clear hsz
  have lX0 := bX0.lt
  have lX1 := bX1.lt
  have lZ := bZ.lt
  have lM0 := bM0.lt
  have hsz : n ≤ u4.heap.size := by have := hB.size; omega
  try clear oZ oB
  have oZ := bZ
  have oB := hB
  have bM1 := Bn.new u4 #[.int .i64 m1.1, .int .i64 m1.2.1] 23
  replace bX0 := bX0.alloc (.cells #[.int .i64 m1.1, .int .i64 m1.2.1] 23)
  replace bX1 := bX1.alloc (.cells #[.int .i64 m1.1, .int .i64 m1.2.1] 23)
  replace bZ := bZ.alloc (.cells #[.int .i64 m1.1, .int .i64 m1.2.1] 23)
  replace bM0 := bM0.alloc (.cells #[.int .i64 m1.1, .int .i64 m1.2.1] 23)
  replace hB := hB.alloc hsz (.cells #[.int .i64 m1.1, .int .i64 m1.2.1] 23)
  have cX00 : (u4.alloc (.cells #[.int .i64 m1.1, .int .i64 m1.2.1] 23)).cell? ⟨n, 0, none⟩ = some (.int .i64 a0) := bX0.cell 0 _ rfl
  have cX01 : (u4.alloc (.cells #[.int .i64 m1.1, .int .i64 m1.2.1] 23)).cell? ⟨n, 1, none⟩ = some (.int .i64 a1) := bX0.cell 1 _ rfl
  have cX02 : (u4.alloc (.cells #[.int .i64 m1.1, .int .i64 m1.2.1] 23)).cell? ⟨n, 2, none⟩ = some (.int .i64 a2) := bX0.cell 2 _ rfl
  have cX03 : (u4.alloc (.cells #[.int .i64 m1.1, .int .i64 m1.2.1] 23)).cell? ⟨n, 3, none⟩ = some (.int .i64 a3) := bX0.cell 3 _ rfl
  have cX04 : (u4.alloc (.cells #[.int .i64 m1.1, .int .i64 m1.2.1] 23)).cell? ⟨n, 4, none⟩ = some (.int .i64 a4) := bX0.cell 4 _ rfl
  have cX05 : (u4.alloc (.cells #[.int .i64 m1.1, .int .i64 m1.2.1] 23)).cell? ⟨n, 5, none⟩ = some (.int .i64 a5) := bX0.cell 5 _ rfl
  have kX0 := bX0.lt
  have cX10 : (u4.alloc (.cells #[.int .i64 m1.1, .int .i64 m1.2.1] 23)).cell? ⟨n + 1, 0, none⟩ = some (.int .i64 l) := bX1.cell 0 _ rfl
  have cX11 : (u4.alloc (.cells #[.int .i64 m1.1, .int .i64 m1.2.1] 23)).cell? ⟨n + 1, 1, none⟩ = some (.int .i64 h) := bX1.cell 1 _ rfl
  have kX1 := bX1.lt
  go_wp2_with fail
  go_at_call 51
  refine (h2 _).mono ?_
  rintro r u5 ⟨rfl, hb⟩
  replace bX0 := bX0.keep hb
  replace bX1 := bX1.keep hb
  replace bZ := bZ.keep hb
  replace bM0 := bM0.keep hb
  replace bM1 := bM1.keep hb
  replace hB := hB.trans (hb.mono (by have := hB.size; omega))
  clear hb cX00 cX01 cX02 cX03 cX04 cX05 kX0 cX10 cX11 kX1
  generalize u4.heap.size = gM1 at *
  clear hsz
  have lX0 := bX0.lt
  have lX1 := bX1.lt
  have lZ := bZ.lt
  have lM0 := bM0.lt
  have lM1 := bM1.lt
  have hsz : n ≤ u5.heap.size := by have := hB.size; omega
  try clear oZ oB
  have oZ := bZ
  have oB := hB
  have bM2 := Bn.new u5 #[.int .i64 m2.1, .int .i64 m2.2.1] 23
  replace bX0 := bX0.alloc (.cells #[.int .i64 m2.1, .int .i64 m2.2.1] 23)
  replace bX1 := bX1.alloc (.cells #[.int .i64 m2.1, .int .i64 m2.2.1] 23)
  replace bZ := bZ.alloc (.cells #[.int .i64 m2.1, .int .i64 m2.2.1] 23)
  replace bM0 := bM0.alloc (.cells #[.int .i64 m2.1, .int .i64 m2.2.1] 23)
  replace bM1 := bM1.alloc (.cells #[.int .i64 m2.1, .int .i64 m2.2.1] 23)
  replace hB := hB.alloc hsz (.cells #[.int .i64 m2.1, .int .i64 m2.2.1] 23)
  have cM00 : (u5.alloc (.cells #[.int .i64 m2.1, .int .i64 m2.2.1] 23)).cell? ⟨gM0, 0, none⟩ = some (.int .i64 m0.1) := bM0.cell 0 _ rfl
  have cM01 : (u5.alloc (.cells #[.int .i64 m2.1, .int .i64 m2.2.1] 23)).cell? ⟨gM0, 1, none⟩ = some (.int .i64 m0.2.1) := bM0.cell 1 _ rfl
  have kM0 := bM0.lt
  have cM10 : (u5.alloc (.cells #[.int .i64 m2.1, .int .i64 m2.2.1] 23)).cell? ⟨gM1, 0, none⟩ = some (.int .i64 m1.1) := bM1.cell 0 _ rfl
  have cM11 : (u5.alloc (.cells #[.int .i64 m2.1, .int .i64 m2.2.1] 23)).cell? ⟨gM1, 1, none⟩ = some (.int .i64 m1.2.1) := bM1.cell 1 _ rfl
  have kM1 := bM1.lt
  have cM20 : (u5.alloc (.cells #[.int .i64 m2.1, .int .i64 m2.2.1] 23)).cell? ⟨u5.heap.size, 0, none⟩ = some (.int .i64 m2.1) := bM2.cell 0 _ rfl
  have cM21 : (u5.alloc (.cells #[.int .i64 m2.1, .int .i64 m2.2.1] 23)).cell? ⟨u5.heap.size, 1, none⟩ = some (.int .i64 m2.2.1) := bM2.cell 1 _ rfl
  have kM2 := bM2.lt
  go_wp2_with fail
  go_at_call 41
  refine (ht _).mono ?_
  rintro r u6 ⟨rfl, hb⟩
  replace bX0 := bX0.keep hb
  replace bX1 := bX1.keep hb
  replace bZ := bZ.keep hb
  replace bM0 := bM0.keep hb
  replace bM1 := bM1.keep hb
  replace bM2 := bM2.keep hb
  replace hB := hB.trans (hb.mono (by have := hB.size; omega))
  clear hb cM00 cM01 kM0 cM10 cM11 kM1 cM20 cM21 kM2
  generalize u5.heap.size = gM2 at *
  clear hsz
  have cZ0 : u6.cell? ⟨n + 2, 0, none⟩ = some (.int .i64 0) := bZ.cell 0 _ rfl
  have cZ1 : u6.cell? ⟨n + 2, 1, none⟩ = some (.int .i64 0) := bZ.cell 1 _ rfl
  have cZ2 : u6.cell? ⟨n + 2, 2, none⟩ = some (.int .i64 0) := bZ.cell 2 _ rfl
  have cZ3 : u6.cell? ⟨n + 2, 3, none⟩ = some (.int .i64 0) := bZ.cell 3 _ rfl
  have cZ4 : u6.cell? ⟨n + 2, 4, none⟩ = some (.int .i64 0) := bZ.cell 4 _ rfl
  have cZ5 : u6.cell? ⟨n + 2, 5, none⟩ = some (.int .i64 0) := bZ.cell 5 _ rfl
  have kZ := bZ.lt
  have zZ0 : u6.frozen? ⟨n + 2, 0, none⟩ = false := bZ.f 0
  have zZ1 : u6.frozen? ⟨n + 2, 1, none⟩ = false := bZ.f 1
  have zZ2 : u6.frozen? ⟨n + 2, 2, none⟩ = false := bZ.f 2
  have zZ3 : u6.frozen? ⟨n + 2, 3, none⟩ = false := bZ.f 3
  have zZ4 : u6.frozen? ⟨n + 2, 4, none⟩ = false := bZ.f 4
  have zZ5 : u6.frozen? ⟨n + 2, 5, none⟩ = false := bZ.f 5
  go_wp2
  refine bodyPost_ret (v := .tuple #[.agg #[.int .i64 t.x0, .int .i64 t.x1, .int .i64 t.y0, .int .i64 t.y1, .int .i64 t.z0, .int .i64 t.z1], .int .i64 t.e]) (by simp [results, Tryz.results18, go_sem, cZ0, zZ0, cZ1, zZ1, cZ2, zZ2, cZ3, zZ3, cZ4, zZ4, cZ5, zZ5, kZ]) rfl ⟨rfl, ?_⟩
  subst hn
  exact below6 hB (show w.heap.size ≤ w.heap.size + 2 by omega) _ _ _ _ _ _
set_option maxRecDepth 100000 in
set_option maxHeartbeats 4000000 in
theorem r6Scale_no0 (a0 a1 a2 a3 a4 a5 l h : Int) (ka : ckV a0 a1 a2 a3 a4 a5 ≠ 0) (w : World) :
    Calls Tryz.prog 18 #[.agg #[.int .i64 a0, .int .i64 a1, .int .i64 a2, .int .i64 a3, .int .i64 a4, .int .i64 a5], .agg #[.int .i64 l, .int .i64 h]] w fun r w' => r = .returned (.tuple #[.agg #[.int .i64 0, .int .i64 0, .int .i64 0, .int .i64 0, .int .i64 0, .int .i64 0], .int .i64 20]) ∧ Below w.heap.size w w' := by
  have g1 := fun w => rRight6_no a0 a1 a2 a3 a4 a5 ka w
  clear ka
  have bX0 := Bn.new w #[.int .i64 a0, .int .i64 a1, .int .i64 a2, .int .i64 a3, .int .i64 a4, .int .i64 a5] 25
  replace bX0 := bX0.alloc (.cells #[.int .i64 l, .int .i64 h] 23)
  replace bX0 := bX0.alloc (.cells #[.int .i64 0, .int .i64 0, .int .i64 0, .int .i64 0, .int .i64 0, .int .i64 0] 25)
  have bX1 := Bn.new (w.alloc (.cells #[.int .i64 a0, .int .i64 a1, .int .i64 a2, .int .i64 a3, .int .i64 a4, .int .i64 a5] 25)) #[.int .i64 l, .int .i64 h] 23
  rw [show (w.alloc (.cells #[.int .i64 a0, .int .i64 a1, .int .i64 a2, .int .i64 a3, .int .i64 a4, .int .i64 a5] 25)).heap.size = w.heap.size + 1 by simp] at bX1
  replace bX1 := bX1.alloc (.cells #[.int .i64 0, .int .i64 0, .int .i64 0, .int .i64 0, .int .i64 0, .int .i64 0] 25)
  have bZ := Bn.new ((w.alloc (.cells #[.int .i64 a0, .int .i64 a1, .int .i64 a2, .int .i64 a3, .int .i64 a4, .int .i64 a5] 25)).alloc (.cells #[.int .i64 l, .int .i64 h] 23)) #[.int .i64 0, .int .i64 0, .int .i64 0, .int .i64 0, .int .i64 0, .int .i64 0] 25
  rw [show ((w.alloc (.cells #[.int .i64 a0, .int .i64 a1, .int .i64 a2, .int .i64 a3, .int .i64 a4, .int .i64 a5] 25)).alloc (.cells #[.int .i64 l, .int .i64 h] 23)).heap.size = w.heap.size + 2 by simp] at bZ
  have hB : Below w.heap.size w (((w.alloc (.cells #[.int .i64 a0, .int .i64 a1, .int .i64 a2, .int .i64 a3, .int .i64 a4, .int .i64 a5] 25)).alloc (.cells #[.int .i64 l, .int .i64 h] 23)).alloc (.cells #[.int .i64 0, .int .i64 0, .int .i64 0, .int .i64 0, .int .i64 0, .int .i64 0] 25)) := by (repeat (first | with_reducible exact Below.refl _ _ | with_reducible assumption | refine Below.alloc ?_ (by (try simp); try omega) _ | refine Below.setCell ?_ (by (try simp); try omega) _ | refine below_drewN ?_ _ | refine Below.drew ?_ | (with_reducible refine Below.trans ?_ (Below.mono (by assumption) (by (try simp); try omega)))))
  generalize hv : (((w.alloc (.cells #[.int .i64 a0, .int .i64 a1, .int .i64 a2, .int .i64 a3, .int .i64 a4, .int .i64 a5] 25)).alloc (.cells #[.int .i64 l, .int .i64 h] 23)).alloc (.cells #[.int .i64 0, .int .i64 0, .int .i64 0, .int .i64 0, .int .i64 0, .int .i64 0] 25)) = v0 at *
  generalize hn : w.heap.size = n at *
  have cX00 : v0.cell? ⟨n, 0, none⟩ = some (.int .i64 a0) := bX0.cell 0 _ rfl
  have cX01 : v0.cell? ⟨n, 1, none⟩ = some (.int .i64 a1) := bX0.cell 1 _ rfl
  have cX02 : v0.cell? ⟨n, 2, none⟩ = some (.int .i64 a2) := bX0.cell 2 _ rfl
  have cX03 : v0.cell? ⟨n, 3, none⟩ = some (.int .i64 a3) := bX0.cell 3 _ rfl
  have cX04 : v0.cell? ⟨n, 4, none⟩ = some (.int .i64 a4) := bX0.cell 4 _ rfl
  have cX05 : v0.cell? ⟨n, 5, none⟩ = some (.int .i64 a5) := bX0.cell 5 _ rfl
  have kX0 := bX0.lt
  subst hv
  subst hn
  go_enter Tryz.func18, Tryz.ntmps18
  go_wp2_with fail
  go_at_call 39
  refine (g1 _).mono ?_
  rintro r u1 ⟨rfl, hb⟩
  replace bX0 := bX0.keep hb
  replace bX1 := bX1.keep hb
  replace bZ := bZ.keep hb
  replace hB := hB.trans (hb.mono hB.size)
  clear hb cX00 cX01 cX02 cX03 cX04 cX05 kX0
  generalize hn : w.heap.size = n at *
  have cZ0 : u1.cell? ⟨n + 2, 0, none⟩ = some (.int .i64 0) := bZ.cell 0 _ rfl
  have cZ1 : u1.cell? ⟨n + 2, 1, none⟩ = some (.int .i64 0) := bZ.cell 1 _ rfl
  have cZ2 : u1.cell? ⟨n + 2, 2, none⟩ = some (.int .i64 0) := bZ.cell 2 _ rfl
  have cZ3 : u1.cell? ⟨n + 2, 3, none⟩ = some (.int .i64 0) := bZ.cell 3 _ rfl
  have cZ4 : u1.cell? ⟨n + 2, 4, none⟩ = some (.int .i64 0) := bZ.cell 4 _ rfl
  have cZ5 : u1.cell? ⟨n + 2, 5, none⟩ = some (.int .i64 0) := bZ.cell 5 _ rfl
  have kZ := bZ.lt
  have zZ0 : u1.frozen? ⟨n + 2, 0, none⟩ = false := bZ.f 0
  have zZ1 : u1.frozen? ⟨n + 2, 1, none⟩ = false := bZ.f 1
  have zZ2 : u1.frozen? ⟨n + 2, 2, none⟩ = false := bZ.f 2
  have zZ3 : u1.frozen? ⟨n + 2, 3, none⟩ = false := bZ.f 3
  have zZ4 : u1.frozen? ⟨n + 2, 4, none⟩ = false := bZ.f 4
  have zZ5 : u1.frozen? ⟨n + 2, 5, none⟩ = false := bZ.f 5
  go_wp2
  refine bodyPost_ret (v := .tuple #[.agg #[.int .i64 0, .int .i64 0, .int .i64 0, .int .i64 0, .int .i64 0, .int .i64 0], .int .i64 20]) (by simp [results, Tryz.results18, go_sem, cZ0, zZ0, cZ1, zZ1, cZ2, zZ2, cZ3, zZ3, cZ4, zZ4, cZ5, zZ5, kZ]) rfl ⟨rfl, ?_⟩
  subst hn
  exact below6 hB (show w.heap.size ≤ w.heap.size + 2 by omega) _ _ _ _ _ _
set_option maxRecDepth 100000 in
set_option maxHeartbeats 4000000 in
theorem r6Scale_no1 (a0 a1 a2 a3 a4 a5 l h : Int) (ka : ckV a0 a1 a2 a3 a4 a5 = 0) (kd : ckS l h = 20) (w : World) :
    Calls Tryz.prog 18 #[.agg #[.int .i64 a0, .int .i64 a1, .int .i64 a2, .int .i64 a3, .int .i64 a4, .int .i64 a5], .agg #[.int .i64 l, .int .i64 h]] w fun r w' => r = .returned (.tuple #[.agg #[.int .i64 0, .int .i64 0, .int .i64 0, .int .i64 0, .int .i64 0, .int .i64 0], .int .i64 20]) ∧ Below w.heap.size w w' := by
  have g1 := fun w => rRight6_ok a0 a1 a2 a3 a4 a5 ka w
  have g2 := fun w => rRight_no l h kd w
  clear ka kd
  have bX0 := Bn.new w #[.int .i64 a0, .int .i64 a1, .int .i64 a2, .int .i64 a3, .int .i64 a4, .int .i64 a5] 25
  replace bX0 := bX0.alloc (.cells #[.int .i64 l, .int .i64 h] 23)
  replace bX0 := bX0.alloc (.cells #[.int .i64 0, .int .i64 0, .int .i64 0, .int .i64 0, .int .i64 0, .int .i64 0] 25)
  have bX1 := Bn.new (w.alloc (.cells #[.int .i64 a0, .int .i64 a1, .int .i64 a2, .int .i64 a3, .int .i64 a4, .int .i64 a5] 25)) #[.int .i64 l, .int .i64 h] 23
  rw [show (w.alloc (.cells #[.int .i64 a0, .int .i64 a1, .int .i64 a2, .int .i64 a3, .int .i64 a4, .int .i64 a5] 25)).heap.size = w.heap.size + 1 by simp] at bX1
  replace bX1 := bX1.alloc (.cells #[.int .i64 0, .int .i64 0, .int .i64 0, .int .i64 0, .int .i64 0, .int .i64 0] 25)
  have bZ := Bn.new ((w.alloc (.cells #[.int .i64 a0, .int .i64 a1, .int .i64 a2, .int .i64 a3, .int .i64 a4, .int .i64 a5] 25)).alloc (.cells #[.int .i64 l, .int .i64 h] 23)) #[.int .i64 0, .int .i64 0, .int .i64 0, .int .i64 0, .int .i64 0, .int .i64 0] 25
  rw [show ((w.alloc (.cells #[.int .i64 a0, .int .i64 a1, .int .i64 a2, .int .i64 a3, .int .i64 a4, .int .i64 a5] 25)).alloc (.cells #[.int .i64 l, .int .i64 h] 23)).heap.size = w.heap.size + 2 by simp] at bZ
  have hB : Below w.heap.size w (((w.alloc (.cells #[.int .i64 a0, .int .i64 a1, .int .i64 a2, .int .i64 a3, .int .i64 a4, .int .i64 a5] 25)).alloc (.cells #[.int .i64 l, .int .i64 h] 23)).alloc (.cells #[.int .i64 0, .int .i64 0, .int .i64 0, .int .i64 0, .int .i64 0, .int .i64 0] 25)) := by (repeat (first | with_reducible exact Below.refl _ _ | with_reducible assumption | refine Below.alloc ?_ (by (try simp); try omega) _ | refine Below.setCell ?_ (by (try simp); try omega) _ | refine below_drewN ?_ _ | refine Below.drew ?_ | (with_reducible refine Below.trans ?_ (Below.mono (by assumption) (by (try simp); try omega)))))
  generalize hv : (((w.alloc (.cells #[.int .i64 a0, .int .i64 a1, .int .i64 a2, .int .i64 a3, .int .i64 a4, .int .i64 a5] 25)).alloc (.cells #[.int .i64 l, .int .i64 h] 23)).alloc (.cells #[.int .i64 0, .int .i64 0, .int .i64 0, .int .i64 0, .int .i64 0, .int .i64 0] 25)) = v0 at *
  generalize hn : w.heap.size = n at *
  have cX00 : v0.cell? ⟨n, 0, none⟩ = some (.int .i64 a0) := bX0.cell 0 _ rfl
  have cX01 : v0.cell? ⟨n, 1, none⟩ = some (.int .i64 a1) := bX0.cell 1 _ rfl
  have cX02 : v0.cell? ⟨n, 2, none⟩ = some (.int .i64 a2) := bX0.cell 2 _ rfl
  have cX03 : v0.cell? ⟨n, 3, none⟩ = some (.int .i64 a3) := bX0.cell 3 _ rfl
  have cX04 : v0.cell? ⟨n, 4, none⟩ = some (.int .i64 a4) := bX0.cell 4 _ rfl
  have cX05 : v0.cell? ⟨n, 5, none⟩ = some (.int .i64 a5) := bX0.cell 5 _ rfl
  have kX0 := bX0.lt
  subst hv
  subst hn
  go_enter Tryz.func18, Tryz.ntmps18
  go_wp2_with fail
  go_at_call 39
  refine (g1 _).mono ?_
  rintro r u1 ⟨rfl, hb⟩
  replace bX0 := bX0.keep hb
  replace bX1 := bX1.keep hb
  replace bZ := bZ.keep hb
  replace hB := hB.trans (hb.mono hB.size)
  clear hb cX00 cX01 cX02 cX03 cX04 cX05 kX0
  generalize hn : w.heap.size = n at *
  have cX10 : u1.cell? ⟨n + 1, 0, none⟩ = some (.int .i64 l) := bX1.cell 0 _ rfl
  have cX11 : u1.cell? ⟨n + 1, 1, none⟩ = some (.int .i64 h) := bX1.cell 1 _ rfl
  have kX1 := bX1.lt
  go_wp2_with fail
  go_at_call 50
  refine (g2 _).mono ?_
  rintro r u2 ⟨rfl, hb⟩
  replace bX0 := bX0.keep hb
  replace bX1 := bX1.keep hb
  replace bZ := bZ.keep hb
  replace hB := hB.trans (hb.mono (by have := hB.size; omega))
  clear hb cX10 cX11 kX1
  have cZ0 : u2.cell? ⟨n + 2, 0, none⟩ = some (.int .i64 0) := bZ.cell 0 _ rfl
  have cZ1 : u2.cell? ⟨n + 2, 1, none⟩ = some (.int .i64 0) := bZ.cell 1 _ rfl
  have cZ2 : u2.cell? ⟨n + 2, 2, none⟩ = some (.int .i64 0) := bZ.cell 2 _ rfl
  have cZ3 : u2.cell? ⟨n + 2, 3, none⟩ = some (.int .i64 0) := bZ.cell 3 _ rfl
  have cZ4 : u2.cell? ⟨n + 2, 4, none⟩ = some (.int .i64 0) := bZ.cell 4 _ rfl
  have cZ5 : u2.cell? ⟨n + 2, 5, none⟩ = some (.int .i64 0) := bZ.cell 5 _ rfl
  have kZ := bZ.lt
  have zZ0 : u2.frozen? ⟨n + 2, 0, none⟩ = false := bZ.f 0
  have zZ1 : u2.frozen? ⟨n + 2, 1, none⟩ = false := bZ.f 1
  have zZ2 : u2.frozen? ⟨n + 2, 2, none⟩ = false := bZ.f 2
  have zZ3 : u2.frozen? ⟨n + 2, 3, none⟩ = false := bZ.f 3
  have zZ4 : u2.frozen? ⟨n + 2, 4, none⟩ = false := bZ.f 4
  have zZ5 : u2.frozen? ⟨n + 2, 5, none⟩ = false := bZ.f 5
  go_wp2
  refine bodyPost_ret (v := .tuple #[.agg #[.int .i64 0, .int .i64 0, .int .i64 0, .int .i64 0, .int .i64 0, .int .i64 0], .int .i64 20]) (by simp [results, Tryz.results18, go_sem, cZ0, zZ0, cZ1, zZ1, cZ2, zZ2, cZ3, zZ3, cZ4, zZ4, cZ5, zZ5, kZ]) rfl ⟨rfl, ?_⟩
  subst hn
  exact below6 hB (show w.heap.size ≤ w.heap.size + 2 by omega) _ _ _ _ _ _
theorem r6Scale_any (a0 a1 a2 a3 a4 a5 l h : Int) (w : World) :
    Calls Tryz.prog 18 #[.agg #[.int .i64 a0, .int .i64 a1, .int .i64 a2, .int .i64 a3, .int .i64 a4, .int .i64 a5], .agg #[.int .i64 l, .int .i64 h]] w fun r w' => r = .returned (.tuple #[.agg #[.int .i64 (vScaleR a0 a1 a2 a3 a4 a5 l h).x0, .int .i64 (vScaleR a0 a1 a2 a3 a4 a5 l h).x1, .int .i64 (vScaleR a0 a1 a2 a3 a4 a5 l h).y0, .int .i64 (vScaleR a0 a1 a2 a3 a4 a5 l h).y1, .int .i64 (vScaleR a0 a1 a2 a3 a4 a5 l h).z0, .int .i64 (vScaleR a0 a1 a2 a3 a4 a5 l h).z1], .int .i64 (vScaleR a0 a1 a2 a3 a4 a5 l h).e]) ∧ Below w.heap.size w w' := by
  by_cases ka : ckV a0 a1 a2 a3 a4 a5 = 0
  · rcases ckS_two l h with kd | kd
    · exact r6Scale_ok a0 a1 a2 a3 a4 a5 l h ka kd w
    · have t := r6Scale_no1 a0 a1 a2 a3 a4 a5 l h ka kd w
      rw [show vScaleR a0 a1 a2 a3 a4 a5 l h = ⟨0, 0, 0, 0, 0, 0, 20⟩ from by unfold vScaleR; rw [ka, ckV_same, kd]; rfl]
      exact t
  · have t := r6Scale_no0 a0 a1 a2 a3 a4 a5 l h ka w
    have e : ckV a0 a1 a2 a3 a4 a5 = 20 := by unfold ckV at ka ⊢; split; (rename_i c; rw [if_pos c] at ka; exact absurd rfl ka); rfl
    rw [show vScaleR a0 a1 a2 a3 a4 a5 l h = ⟨0, 0, 0, 0, 0, 0, 20⟩ from by unfold vScaleR; rw [e]; rfl]
    exact t
end Go.Proofs.YtnfapdmbkpkkdaaGreat
