/-
  Package vec: Check; calculators of one or two vectors; what they return.
-/
import Derived.Test.YtnfapdmbkpkkdaaGreatVcC
namespace Go.Proofs.YtnfapdmbkpkkdaaGreat
open Go.RowKit

theorem ofR_ok {l h : Int} (k : ckS l h = 0) : (ofR l h).1 = l ∧ (ofR l h).2.1 = h := by unfold ofR; rw [if_pos k]; exact ⟨rfl, rfl⟩
theorem ofR_no {l h : Int} (k : ckS l h ≠ 0) : ¬ ((ofR l h).1 = l ∧ (ofR l h).2.1 = h) := by
  unfold ofR; rw [if_neg k]
  rintro ⟨h1, h2⟩
  simp only [] at h1 h2
  subst h1 h2
  exact k (by decide)
theorem fld_span : Tryz.prog.fieldsOf 23 = #[{ name := "Lo", type := 3, offset := 0, embedded := false, tag := "", pkgPath := "", byteOffset := 0 }, { name := "Hi", type := 3, offset := 1, embedded := false, tag := "", pkgPath := "", byteOffset := 8 }] := by kernel_rfl
theorem eqSpan_run (d : Nat) (a0 a1 b0 b1 : Int) (w : World) : (Op.equalIn (d + 2) 23 (.agg #[.int .i64 a0, .int .i64 a1]) (.agg #[.int .i64 b0, .int .i64 b1])).run Tryz.prog w = .ok (a0 == b0 && a1 == b1) w := by
  rw [run_equalIn_agg w (d + 1) 23 _ _ (by kernel_rfl) (by kernel_rfl), fld_span]
  have h0 := fun (x y : Int) w => run_equalIn_int w d 3 .i64 .i64 x y Tryz.underlying3
  cases e0 : (a0 == b0) <;> cases e1 : (a1 == b1) <;> simp [Op.eqFields, go_sem, Tryz.isAgg3, Tryz.sizeOf3, h0, e0, e1]
theorem eqVec_run (d : Nat) (a0 a1 a2 a3 a4 a5 b0 b1 b2 b3 b4 b5 : Int) (w : World) : (Op.equalIn (d + 3) 25 (.agg #[.int .i64 a0, .int .i64 a1, .int .i64 a2, .int .i64 a3, .int .i64 a4, .int .i64 a5]) (.agg #[.int .i64 b0, .int .i64 b1, .int .i64 b2, .int .i64 b3, .int .i64 b4, .int .i64 b5])).run Tryz.prog w = .ok (a0 == b0 && a1 == b1 && (a2 == b2 && a3 == b3) && (a4 == b4 && a5 == b5)) w := by
  have h0 := fun (x y u v : Int) w => eqSpan_run d x y u v w
  have hu : Tryz.prog.underlying 25 = some (.array 3 23) := by kernel_rfl
  rw [Op.equalIn]
  simp only [Sem.run_bind, run_underlying hu, Result.andThen_ok]
  simp [List.range', go_sem, Tryz.isAgg23, Tryz.sizeOf23, h0]
  by_cases e0 : a0 = b0 <;> by_cases e1 : a1 = b1 <;> by_cases e2 : a2 = b2 <;> by_cases e3 : a3 = b3 <;> by_cases e4 : a4 = b4 <;> by_cases e5 : a5 = b5 <;> simp_all
set_option maxRecDepth 100000 in
set_option maxHeartbeats 4000000 in
theorem vCheck_any (a0 a1 a2 a3 a4 a5 : Int) (w : World) :
    Calls Tryz.prog 14 #[.agg #[.int .i64 a0, .int .i64 a1, .int .i64 a2, .int .i64 a3, .int .i64 a4, .int .i64 a5]] w fun r w' => r = .returned (.int .i64 (ckV a0 a1 a2 a3 a4 a5)) ∧ Below w.heap.size w w' := by
  have hs := fun w => each_remade a0 a1 a2 a3 a4 a5 w
  have hq : ((ofR a0 a1).1 == a0 && (ofR a0 a1).2.1 == a1 && ((ofR a2 a3).1 == a2 && (ofR a2 a3).2.1 == a3) && ((ofR a4 a5).1 == a4 && (ofR a4 a5).2.1 == a5)) = decide (ckV a0 a1 a2 a3 a4 a5 = 0) := by
    unfold ckV
    by_cases k0 : ckS a0 a1 = 0
    · have h0 := ofR_ok k0
      by_cases k1 : ckS a2 a3 = 0
      · have h1 := ofR_ok k1
        by_cases k2 : ckS a4 a5 = 0
        · have h2 := ofR_ok k2
          simp [k0, k1, k2, h0, h1, h2]
        · have h2 := ofR_no k2
          simp [k0, k1, k2, h0, h1]; omega
      · have h1 := ofR_no k1
        simp [k0, k1, h0]; omega
    · have h0 := ofR_no k0
      simp [k0]; omega
  generalize (ofR a0 a1).1 = s0 at *
  generalize (ofR a2 a3).1 = s1 at *
  generalize (ofR a4 a5).1 = s2 at *
  generalize (ofR a0 a1).2.1 = t0 at *
  generalize (ofR a2 a3).2.1 = t1 at *
  generalize (ofR a4 a5).2.1 = t2 at *
  have hne : ∀ w, (Op.equalIn 10000 25 (.agg #[.int .i64 s0, .int .i64 t0, .int .i64 s1, .int .i64 t1, .int .i64 s2, .int .i64 t2]) (.agg #[.int .i64 a0, .int .i64 a1, .int .i64 a2, .int .i64 a3, .int .i64 a4, .int .i64 a5])).run Tryz.prog w = .ok (decide (ckV a0 a1 a2 a3 a4 a5 = 0)) w := fun w => by
    rw [← hq]; exact eqVec_run 9997 s0 t0 s1 t1 s2 t2 a0 a1 a2 a3 a4 a5 w
  clear hq
  have hcc : ckV a0 a1 a2 a3 a4 a5 = 0 ∨ ckV a0 a1 a2 a3 a4 a5 = 20 := by unfold ckV; split <;> omega
  generalize ckV a0 a1 a2 a3 a4 a5 = ck at *
  have b0 := (Bn.new w #[.int .i64 a0, .int .i64 a1, .int .i64 a2, .int .i64 a3, .int .i64 a4, .int .i64 a5] 25)
  have hB : Below w.heap.size w (w.alloc (.cells #[.int .i64 a0, .int .i64 a1, .int .i64 a2, .int .i64 a3, .int .i64 a4, .int .i64 a5] 25)) := by (repeat (first | with_reducible exact Below.refl _ _ | with_reducible assumption | refine Below.alloc ?_ (by (try simp); try omega) _ | refine Below.setCell ?_ (by (try simp); try omega) _ | refine below_drewN ?_ _ | refine Below.drew ?_ | (with_reducible refine Below.trans ?_ (Below.mono (by assumption) (by (try simp); try omega)))))
  rcases hcc with rfl | rfl
  · go_enter Tryz.func14, Tryz.ntmps14
    go_wp2_with fail
    generalize (w.alloc (.cells #[.int .i64 a0, .int .i64 a1, .int .i64 a2, .int .i64 a3, .int .i64 a4, .int .i64 a5] 25)) = v0 at *
    generalize hn : w.heap.size = n at *
    have cb00 : v0.cell? ⟨n, 0, none⟩ = some (.int .i64 a0) := b0.cell 0 _ rfl
    have cb01 : v0.cell? ⟨n, 1, none⟩ = some (.int .i64 a1) := b0.cell 1 _ rfl
    have cb02 : v0.cell? ⟨n, 2, none⟩ = some (.int .i64 a2) := b0.cell 2 _ rfl
    have cb03 : v0.cell? ⟨n, 3, none⟩ = some (.int .i64 a3) := b0.cell 3 _ rfl
    have cb04 : v0.cell? ⟨n, 4, none⟩ = some (.int .i64 a4) := b0.cell 4 _ rfl
    have cb05 : v0.cell? ⟨n, 5, none⟩ = some (.int .i64 a5) := b0.cell 5 _ rfl
    clear b0
    go_region_held3 (fun w' => w'.cell? ⟨n, 0, none⟩ = some (.int .i64 a0) ∧ w'.cell? ⟨n, 1, none⟩ = some (.int .i64 a1) ∧ w'.cell? ⟨n, 2, none⟩ = some (.int .i64 a2) ∧ w'.cell? ⟨n, 3, none⟩ = some (.int .i64 a3) ∧ w'.cell? ⟨n, 4, none⟩ = some (.int .i64 a4) ∧ w'.cell? ⟨n, 5, none⟩ = some (.int .i64 a5))
      (first | with_reducible exact ⟨cb00, cb01, cb02, cb03, cb04, cb05⟩ | with_reducible exact ⟨cellDrewI cb00, cellDrewI cb01, cellDrewI cb02, cellDrewI cb03, cellDrewI cb04, cellDrewI cb05⟩)
      (first | (go_at_call 44; (with_reducible refine (hs _).mono ?_); rintro r uz ⟨rfl, hb⟩; (with_reducible (first | (replace hb := vUndrew hb) | skip)); replace cb00 := bkeep hb cb00; replace cb01 := bkeep hb cb01; replace cb02 := bkeep hb cb02; replace cb03 := bkeep hb cb03; replace cb04 := bkeep hb cb04; replace cb05 := bkeep hb cb05; replace hB := hB.trans (hb.mono (by have := hB.size; omega)); clear hb))
    subst hn
    go_wp2
    go_ret
    exact ⟨rfl, hB⟩
  · go_enter Tryz.func14, Tryz.ntmps14
    go_wp2_with fail
    generalize (w.alloc (.cells #[.int .i64 a0, .int .i64 a1, .int .i64 a2, .int .i64 a3, .int .i64 a4, .int .i64 a5] 25)) = v0 at *
    generalize hn : w.heap.size = n at *
    have cb00 : v0.cell? ⟨n, 0, none⟩ = some (.int .i64 a0) := b0.cell 0 _ rfl
    have cb01 : v0.cell? ⟨n, 1, none⟩ = some (.int .i64 a1) := b0.cell 1 _ rfl
    have cb02 : v0.cell? ⟨n, 2, none⟩ = some (.int .i64 a2) := b0.cell 2 _ rfl
    have cb03 : v0.cell? ⟨n, 3, none⟩ = some (.int .i64 a3) := b0.cell 3 _ rfl
    have cb04 : v0.cell? ⟨n, 4, none⟩ = some (.int .i64 a4) := b0.cell 4 _ rfl
    have cb05 : v0.cell? ⟨n, 5, none⟩ = some (.int .i64 a5) := b0.cell 5 _ rfl
    clear b0
    go_region_held3 (fun w' => w'.cell? ⟨n, 0, none⟩ = some (.int .i64 a0) ∧ w'.cell? ⟨n, 1, none⟩ = some (.int .i64 a1) ∧ w'.cell? ⟨n, 2, none⟩ = some (.int .i64 a2) ∧ w'.cell? ⟨n, 3, none⟩ = some (.int .i64 a3) ∧ w'.cell? ⟨n, 4, none⟩ = some (.int .i64 a4) ∧ w'.cell? ⟨n, 5, none⟩ = some (.int .i64 a5))
      (first | with_reducible exact ⟨cb00, cb01, cb02, cb03, cb04, cb05⟩ | with_reducible exact ⟨cellDrewI cb00, cellDrewI cb01, cellDrewI cb02, cellDrewI cb03, cellDrewI cb04, cellDrewI cb05⟩)
      (first | (go_at_call 44; (with_reducible refine (hs _).mono ?_); rintro r uz ⟨rfl, hb⟩; (with_reducible (first | (replace hb := vUndrew hb) | skip)); replace cb00 := bkeep hb cb00; replace cb01 := bkeep hb cb01; replace cb02 := bkeep hb cb02; replace cb03 := bkeep hb cb03; replace cb04 := bkeep hb cb04; replace cb05 := bkeep hb cb05; replace hB := hB.trans (hb.mono (by have := hB.size; omega)); clear hb))
    subst hn
    go_wp2
    go_ret
    exact ⟨rfl, hB⟩
set_option maxHeartbeats 4000000 in
theorem calc1_any (q : Nat) (t : TypeId) (a0 a1 a2 a3 a4 a5 : Int) (w : World) (hq : Bn w q #[.int .i64 a0, .int .i64 a1, .int .i64 a2, .int .i64 a3, .int .i64 a4, .int .i64 a5] t) :
    Calls Tryz.prog 35 #[.slice (some ⟨q, 0, none⟩) 1 1] w fun r w' => ∃ c, r = .returned (.pointer (some ⟨c, 0, none⟩)) ∧ Cl w' c (ckV a0 a1 a2 a3 a4 a5) ∧ w.heap.size ≤ c ∧ Below w.heap.size w w' := by
  have hk0 := fun w => vCheck_any a0 a1 a2 a3 a4 a5 w
  generalize ckV a0 a1 a2 a3 a4 a5 = k0 at *
  have l0 := hq.lt
  have hC : Cl (w.alloc (.cells #[.int .i64 0] 80)) w.heap.size 0 := Bn.new w #[.int .i64 0] 80
  have hB : Below w.heap.size w (w.alloc (.cells #[.int .i64 0] 80)) := by (repeat (first | with_reducible exact Below.refl _ _ | with_reducible assumption | refine Below.alloc ?_ (by (try simp); try omega) _ | refine Below.setCell ?_ (by (try simp); try omega) _ | refine below_drewN ?_ _ | refine Below.drew ?_ | (with_reducible refine Below.trans ?_ (Below.mono (by assumption) (by (try simp); try omega)))))
  replace hq := hq.alloc (.cells #[.int .i64 0] 80)
  have e0 := hq.cell 0 _ rfl
  have e1 := hq.cell 1 _ rfl
  have e2 := hq.cell 2 _ rfl
  have e3 := hq.cell 3 _ rfl
  have e4 := hq.cell 4 _ rfl
  have e5 := hq.cell 5 _ rfl
  have lq := hq.lt
  go_enter Tryz.func35, Tryz.ntmps35
  go_wp2
  refine wp_loop_rounds 2 ?_
  rw [rounds_succ]
  go_wp2_with fail
  go_at_call 14
  refine (hk0 _).mono ?_
  rintro r u0 ⟨rfl, hb⟩
  replace hb := vUnalloc hb
  replace hq := hq.keep hb
  replace hC := hC.keep hb
  replace hB := hB.trans (hb.mono hB.size)
  clear hb hk0
  clear e0 e1 e2 e3 e4 e5 lq
  go_wp2_with fail
  go_at_call 67
  refine (vNote_any w.heap.size (0) k0 _ hC).mono ?_
  rintro r v0 ⟨rfl, hC2, hk⟩
  replace hq := hq.ke (by omega) hk
  replace hB := hk.below hB (Nat.le_refl _) hB.size
  clear hk hC
  have hC := hC2
  clear hC2
  go_wp2
  rw [rounds_succ]
  rw [fo_zero] at hC
  clear hq
  go_wp2
  go_ret
  exact ⟨_, rfl, hC, Nat.le_refl _, hB⟩
set_option maxHeartbeats 4000000 in
theorem calc2_any (q : Nat) (t : TypeId) (a0 a1 a2 a3 a4 a5 d0 d1 d2 d3 d4 d5 : Int) (w : World) (hq : Bn w q #[.int .i64 a0, .int .i64 a1, .int .i64 a2, .int .i64 a3, .int .i64 a4, .int .i64 a5, .int .i64 d0, .int .i64 d1, .int .i64 d2, .int .i64 d3, .int .i64 d4, .int .i64 d5] t) :
    Calls Tryz.prog 35 #[.slice (some ⟨q, 0, none⟩) 2 2] w fun r w' => ∃ c, r = .returned (.pointer (some ⟨c, 0, none⟩)) ∧ Cl w' c ((fo (ckV a0 a1 a2 a3 a4 a5) (ckV d0 d1 d2 d3 d4 d5))) ∧ w.heap.size ≤ c ∧ Below w.heap.size w w' := by
  have hk0 := fun w => vCheck_any a0 a1 a2 a3 a4 a5 w
  generalize ckV a0 a1 a2 a3 a4 a5 = k0 at *
  have hk1 := fun w => vCheck_any d0 d1 d2 d3 d4 d5 w
  generalize ckV d0 d1 d2 d3 d4 d5 = k1 at *
  have l0 := hq.lt
  have hC : Cl (w.alloc (.cells #[.int .i64 0] 80)) w.heap.size 0 := Bn.new w #[.int .i64 0] 80
  have hB : Below w.heap.size w (w.alloc (.cells #[.int .i64 0] 80)) := by (repeat (first | with_reducible exact Below.refl _ _ | with_reducible assumption | refine Below.alloc ?_ (by (try simp); try omega) _ | refine Below.setCell ?_ (by (try simp); try omega) _ | refine below_drewN ?_ _ | refine Below.drew ?_ | (with_reducible refine Below.trans ?_ (Below.mono (by assumption) (by (try simp); try omega)))))
  replace hq := hq.alloc (.cells #[.int .i64 0] 80)
  have e0 := hq.cell 0 _ rfl
  have e1 := hq.cell 1 _ rfl
  have e2 := hq.cell 2 _ rfl
  have e3 := hq.cell 3 _ rfl
  have e4 := hq.cell 4 _ rfl
  have e5 := hq.cell 5 _ rfl
  have lq := hq.lt
  go_enter Tryz.func35, Tryz.ntmps35
  go_wp2
  refine wp_loop_rounds 3 ?_
  rw [rounds_succ]
  go_wp2_with fail
  go_at_call 14
  refine (hk0 _).mono ?_
  rintro r u0 ⟨rfl, hb⟩
  replace hb := vUnalloc hb
  replace hq := hq.keep hb
  replace hC := hC.keep hb
  replace hB := hB.trans (hb.mono hB.size)
  clear hb hk0
  clear e0 e1 e2 e3 e4 e5 lq
  go_wp2_with fail
  go_at_call 67
  refine (vNote_any w.heap.size (0) k0 _ hC).mono ?_
  rintro r v0 ⟨rfl, hC2, hk⟩
  replace hq := hq.ke (by omega) hk
  replace hB := hk.below hB (Nat.le_refl _) hB.size
  clear hk hC
  have hC := hC2
  clear hC2
  have e0 := hq.cell 6 _ rfl
  have e1 := hq.cell 7 _ rfl
  have e2 := hq.cell 8 _ rfl
  have e3 := hq.cell 9 _ rfl
  have e4 := hq.cell 10 _ rfl
  have e5 := hq.cell 11 _ rfl
  have lq := hq.lt
  go_wp2
  rw [rounds_succ]
  go_wp2_with fail
  go_at_call 14
  refine (hk1 _).mono ?_
  rintro r u1 ⟨rfl, hb⟩
  replace hb := vUnalloc hb
  replace hq := hq.keep hb
  replace hC := hC.keep hb
  replace hB := hB.trans (hb.mono hB.size)
  clear hb hk1
  clear e0 e1 e2 e3 e4 e5 lq
  go_wp2_with fail
  go_at_call 67
  refine (vNote_any w.heap.size (fo (0) k0) k1 _ hC).mono ?_
  rintro r v1 ⟨rfl, hC2, hk⟩
  replace hq := hq.ke (by omega) hk
  replace hB := hk.below hB (Nat.le_refl _) hB.size
  clear hk hC
  have hC := hC2
  clear hC2
  go_wp2
  rw [rounds_succ]
  rw [fo_zero] at hC
  clear hq
  go_wp2
  go_ret
  exact ⟨_, rfl, hC, Nat.le_refl _, hB⟩
def vTold (e : Int) (q : VR) : VR := if e = 0 then ⟨q.x0, q.x1, q.y0, q.y1, q.z0, q.z1, 0⟩ else ⟨0, 0, 0, 0, 0, 0, e⟩
def sTold (e l h : Int) : Int × Int × Int := if e = 0 then (l, h, 0) else (0, 0, e)
theorem checkedV_any (p : Nat) (e : Int) (q : VR) (w : World) (hC : Cl w p e) :
    Calls Tryz.prog 36 #[.pointer (some ⟨p, 0, none⟩), .agg #[.int .i64 (q).x0, .int .i64 (q).x1, .int .i64 (q).y0, .int .i64 (q).y1, .int .i64 (q).z0, .int .i64 (q).z1]] w fun r w' => r = .returned (.tuple #[.agg #[.int .i64 (vTold e q).x0, .int .i64 (vTold e q).x1, .int .i64 (vTold e q).y0, .int .i64 (vTold e q).y1, .int .i64 (vTold e q).z0, .int .i64 (vTold e q).z1], .int .i64 (vTold e q).e]) ∧ Below w.heap.size w w' := by
  obtain ⟨x0, x1, y0, y1, z0, z1, ee⟩ := q
  have c0 := hC.cell
  have l0 := hC.lt
  clear hC
  by_cases h : e = 0
  · subst h
    simp only [vTold, if_true]
    go_enter Tryz.func36, Tryz.ntmps36
    go_wp2
    refine bodyPost_ret (v := .tuple #[.agg #[.int .i64 x0, .int .i64 x1, .int .i64 y0, .int .i64 y1, .int .i64 z0, .int .i64 z1], .int .i64 0]) (by simp [results, Tryz.results36, go_sem]) rfl ⟨rfl, by (repeat (first | with_reducible exact Below.refl _ _ | with_reducible assumption | refine Below.alloc ?_ (by (try simp); try omega) _ | refine Below.setCell ?_ (by (try simp); try omega) _ | refine below_drewN ?_ _ | refine Below.drew ?_ | (with_reducible refine Below.trans ?_ (Below.mono (by assumption) (by (try simp); try omega)))))⟩
  · have he : (e == 0) = false := by simpa using h
    simp only [vTold, if_neg h]
    have b0 := (((Bn.new w #[.int .i64 x0, .int .i64 x1, .int .i64 y0, .int .i64 y1, .int .i64 z0, .int .i64 z1] 25).alloc (.cells #[.int .i64 0, .int .i64 0, .int .i64 0, .int .i64 0, .int .i64 0, .int .i64 0] 25)).alloc (.cells #[.int .i64 0, .int .i64 0, .int .i64 0, .int .i64 0, .int .i64 0, .int .i64 0] 25))
    have b1 := ((Bn.new (w.alloc (.cells #[.int .i64 x0, .int .i64 x1, .int .i64 y0, .int .i64 y1, .int .i64 z0, .int .i64 z1] 25)) #[.int .i64 0, .int .i64 0, .int .i64 0, .int .i64 0, .int .i64 0, .int .i64 0] 25).alloc (.cells #[.int .i64 0, .int .i64 0, .int .i64 0, .int .i64 0, .int .i64 0, .int .i64 0] 25))
    rw [show (w.alloc (.cells #[.int .i64 x0, .int .i64 x1, .int .i64 y0, .int .i64 y1, .int .i64 z0, .int .i64 z1] 25)).heap.size = w.heap.size + 1 by simp] at b1
    have b2 := (Bn.new ((w.alloc (.cells #[.int .i64 x0, .int .i64 x1, .int .i64 y0, .int .i64 y1, .int .i64 z0, .int .i64 z1] 25)).alloc (.cells #[.int .i64 0, .int .i64 0, .int .i64 0, .int .i64 0, .int .i64 0, .int .i64 0] 25)) #[.int .i64 0, .int .i64 0, .int .i64 0, .int .i64 0, .int .i64 0, .int .i64 0] 25)
    rw [show ((w.alloc (.cells #[.int .i64 x0, .int .i64 x1, .int .i64 y0, .int .i64 y1, .int .i64 z0, .int .i64 z1] 25)).alloc (.cells #[.int .i64 0, .int .i64 0, .int .i64 0, .int .i64 0, .int .i64 0, .int .i64 0] 25)).heap.size = w.heap.size + 2 by simp] at b2
    have c1 : (((w.alloc (.cells #[.int .i64 x0, .int .i64 x1, .int .i64 y0, .int .i64 y1, .int .i64 z0, .int .i64 z1] 25)).alloc (.cells #[.int .i64 0, .int .i64 0, .int .i64 0, .int .i64 0, .int .i64 0, .int .i64 0] 25)).alloc (.cells #[.int .i64 0, .int .i64 0, .int .i64 0, .int .i64 0, .int .i64 0, .int .i64 0] 25)).cell? ⟨p, 0, none⟩ = some (.int .i64 e) := bkeep (by (repeat (first | with_reducible exact Below.refl _ _ | with_reducible assumption | refine Below.alloc ?_ (by (try simp); try omega) _ | refine Below.setCell ?_ (by (try simp); try omega) _ | refine below_drewN ?_ _ | refine Below.drew ?_ | (with_reducible refine Below.trans ?_ (Below.mono (by assumption) (by (try simp); try omega)))))) c0
    have hB : Below w.heap.size w (((w.alloc (.cells #[.int .i64 x0, .int .i64 x1, .int .i64 y0, .int .i64 y1, .int .i64 z0, .int .i64 z1] 25)).alloc (.cells #[.int .i64 0, .int .i64 0, .int .i64 0, .int .i64 0, .int .i64 0, .int .i64 0] 25)).alloc (.cells #[.int .i64 0, .int .i64 0, .int .i64 0, .int .i64 0, .int .i64 0, .int .i64 0] 25)) := by (repeat (first | with_reducible exact Below.refl _ _ | with_reducible assumption | refine Below.alloc ?_ (by (try simp); try omega) _ | refine Below.setCell ?_ (by (try simp); try omega) _ | refine below_drewN ?_ _ | refine Below.drew ?_ | (with_reducible refine Below.trans ?_ (Below.mono (by assumption) (by (try simp); try omega)))))
    go_enter Tryz.func36, Tryz.ntmps36
    go_wp2_with fail
    generalize (((w.alloc (.cells #[.int .i64 x0, .int .i64 x1, .int .i64 y0, .int .i64 y1, .int .i64 z0, .int .i64 z1] 25)).alloc (.cells #[.int .i64 0, .int .i64 0, .int .i64 0, .int .i64 0, .int .i64 0, .int .i64 0] 25)).alloc (.cells #[.int .i64 0, .int .i64 0, .int .i64 0, .int .i64 0, .int .i64 0, .int .i64 0] 25)) = v0 at *
    generalize hn : w.heap.size = n at *
    clear c0 b0
    have cb20 : v0.cell? ⟨n + 2, 0, none⟩ = some (.int .i64 0) := b2.cell 0 _ rfl
    have cb21 : v0.cell? ⟨n + 2, 1, none⟩ = some (.int .i64 0) := b2.cell 1 _ rfl
    have cb22 : v0.cell? ⟨n + 2, 2, none⟩ = some (.int .i64 0) := b2.cell 2 _ rfl
    have cb23 : v0.cell? ⟨n + 2, 3, none⟩ = some (.int .i64 0) := b2.cell 3 _ rfl
    have cb24 : v0.cell? ⟨n + 2, 4, none⟩ = some (.int .i64 0) := b2.cell 4 _ rfl
    have cb25 : v0.cell? ⟨n + 2, 5, none⟩ = some (.int .i64 0) := b2.cell 5 _ rfl
    clear b2
    have y0 := b1.cell 0 _ rfl
    have y1 := b1.cell 1 _ rfl
    have y2 := b1.cell 2 _ rfl
    have y3 := b1.cell 3 _ rfl
    have y4 := b1.cell 4 _ rfl
    have y5 := b1.cell 5 _ rfl
    have z0 := b1.f 0
    have z1 := b1.f 1
    have z2 := b1.f 2
    have z3 := b1.f 3
    have z4 := b1.f 4
    have z5 := b1.f 5
    have lz := b1.lt
    go_region_held3 (fun w' => w'.cell? ⟨n + 2, 0, none⟩ = some (.int .i64 0) ∧ w'.cell? ⟨n + 2, 1, none⟩ = some (.int .i64 0) ∧ w'.cell? ⟨n + 2, 2, none⟩ = some (.int .i64 0) ∧ w'.cell? ⟨n + 2, 3, none⟩ = some (.int .i64 0) ∧ w'.cell? ⟨n + 2, 4, none⟩ = some (.int .i64 0) ∧ w'.cell? ⟨n + 2, 5, none⟩ = some (.int .i64 0) ∧ w'.cell? ⟨p, 0, none⟩ = some (.int .i64 e))
      (first | with_reducible exact ⟨cb20, cb21, cb22, cb23, cb24, cb25, c1⟩ | with_reducible exact ⟨cellDrewI cb20, cellDrewI cb21, cellDrewI cb22, cellDrewI cb23, cellDrewI cb24, cellDrewI cb25, cellDrewI c1⟩ | with_reducible exact ⟨cellDrewI (cellFar6 cb20 (by omega) _ _ _ _ _ _), cellDrewI (cellFar6 cb21 (by omega) _ _ _ _ _ _), cellDrewI (cellFar6 cb22 (by omega) _ _ _ _ _ _), cellDrewI (cellFar6 cb23 (by omega) _ _ _ _ _ _), cellDrewI (cellFar6 cb24 (by omega) _ _ _ _ _ _), cellDrewI (cellFar6 cb25 (by omega) _ _ _ _ _ _), cellDrewI (cellFar6 c1 (by omega) _ _ _ _ _ _)⟩)
      (fail)
    subst hn
    all_goals (go_wp2; refine bodyPost_ret (v := .tuple #[.agg #[.int .i64 0, .int .i64 0, .int .i64 0, .int .i64 0, .int .i64 0, .int .i64 0], .int .i64 e]) (by simp [results, Tryz.results36, go_sem, y0, z0, y1, z1, y2, z2, y3, z3, y4, z4, y5, z5, lz]) rfl ⟨rfl, (below6 hB (by omega) _ _ _ _ _ _).drew⟩)
theorem checkedS_any (p : Nat) (e x0 x1 : Int) (w : World) (hC : Cl w p e) :
    Calls Tryz.prog 52 #[.pointer (some ⟨p, 0, none⟩), .agg #[.int .i64 x0, .int .i64 x1]] w fun r w' => r = .returned (.tuple #[.agg #[.int .i64 (sTold e x0 x1).1, .int .i64 (sTold e x0 x1).2.1], .int .i64 (sTold e x0 x1).2.2]) ∧ Below w.heap.size w w' := by
  have c0 := hC.cell
  have l0 := hC.lt
  clear hC
  by_cases h : e = 0
  · subst h
    simp only [sTold, if_true]
    go_enter Tryz.func52, Tryz.ntmps52
    go_wp2
    refine bodyPost_ret (v := .tuple #[.agg #[.int .i64 x0, .int .i64 x1], .int .i64 0]) (by simp [results, Tryz.results52, go_sem]) rfl ⟨rfl, by (repeat (first | with_reducible exact Below.refl _ _ | with_reducible assumption | refine Below.alloc ?_ (by (try simp); try omega) _ | refine Below.setCell ?_ (by (try simp); try omega) _ | refine below_drewN ?_ _ | refine Below.drew ?_ | (with_reducible refine Below.trans ?_ (Below.mono (by assumption) (by (try simp); try omega)))))⟩
  · have he : (e == 0) = false := by simpa using h
    simp only [sTold, if_neg h]
    have b0 := (((Bn.new w #[.int .i64 x0, .int .i64 x1] 23).alloc (.cells #[.int .i64 0, .int .i64 0] 23)).alloc (.cells #[.int .i64 0, .int .i64 0] 23))
    have b1 := ((Bn.new (w.alloc (.cells #[.int .i64 x0, .int .i64 x1] 23)) #[.int .i64 0, .int .i64 0] 23).alloc (.cells #[.int .i64 0, .int .i64 0] 23))
    rw [show (w.alloc (.cells #[.int .i64 x0, .int .i64 x1] 23)).heap.size = w.heap.size + 1 by simp] at b1
    have b2 := (Bn.new ((w.alloc (.cells #[.int .i64 x0, .int .i64 x1] 23)).alloc (.cells #[.int .i64 0, .int .i64 0] 23)) #[.int .i64 0, .int .i64 0] 23)
    rw [show ((w.alloc (.cells #[.int .i64 x0, .int .i64 x1] 23)).alloc (.cells #[.int .i64 0, .int .i64 0] 23)).heap.size = w.heap.size + 2 by simp] at b2
    have c1 : (((w.alloc (.cells #[.int .i64 x0, .int .i64 x1] 23)).alloc (.cells #[.int .i64 0, .int .i64 0] 23)).alloc (.cells #[.int .i64 0, .int .i64 0] 23)).cell? ⟨p, 0, none⟩ = some (.int .i64 e) := bkeep (by (repeat (first | with_reducible exact Below.refl _ _ | with_reducible assumption | refine Below.alloc ?_ (by (try simp); try omega) _ | refine Below.setCell ?_ (by (try simp); try omega) _ | refine below_drewN ?_ _ | refine Below.drew ?_ | (with_reducible refine Below.trans ?_ (Below.mono (by assumption) (by (try simp); try omega)))))) c0
    have hB : Below w.heap.size w (((w.alloc (.cells #[.int .i64 x0, .int .i64 x1] 23)).alloc (.cells #[.int .i64 0, .int .i64 0] 23)).alloc (.cells #[.int .i64 0, .int .i64 0] 23)) := by (repeat (first | with_reducible exact Below.refl _ _ | with_reducible assumption | refine Below.alloc ?_ (by (try simp); try omega) _ | refine Below.setCell ?_ (by (try simp); try omega) _ | refine below_drewN ?_ _ | refine Below.drew ?_ | (with_reducible refine Below.trans ?_ (Below.mono (by assumption) (by (try simp); try omega)))))
    go_enter Tryz.func52, Tryz.ntmps52
    go_wp2_with fail
    generalize (((w.alloc (.cells #[.int .i64 x0, .int .i64 x1] 23)).alloc (.cells #[.int .i64 0, .int .i64 0] 23)).alloc (.cells #[.int .i64 0, .int .i64 0] 23)) = v0 at *
    generalize hn : w.heap.size = n at *
    clear c0 b0
    have cb20 : v0.cell? ⟨n + 2, 0, none⟩ = some (.int .i64 0) := b2.cell 0 _ rfl
    have cb21 : v0.cell? ⟨n + 2, 1, none⟩ = some (.int .i64 0) := b2.cell 1 _ rfl
    clear b2
    have y0 := b1.cell 0 _ rfl
    have y1 := b1.cell 1 _ rfl
    have z0 := b1.f 0
    have z1 := b1.f 1
    have lz := b1.lt
    go_region_held3 (fun w' => w'.cell? ⟨n + 2, 0, none⟩ = some (.int .i64 0) ∧ w'.cell? ⟨n + 2, 1, none⟩ = some (.int .i64 0) ∧ w'.cell? ⟨p, 0, none⟩ = some (.int .i64 e))
      (first | with_reducible exact ⟨cb20, cb21, c1⟩ | with_reducible exact ⟨cellDrewI cb20, cellDrewI cb21, cellDrewI c1⟩ | with_reducible exact ⟨cellDrewI (cellFar2 cb20 (by omega) _ _), cellDrewI (cellFar2 cb21 (by omega) _ _), cellDrewI (cellFar2 c1 (by omega) _ _)⟩)
      (fail)
    subst hn
    all_goals (go_wp2; refine bodyPost_ret (v := .tuple #[.agg #[.int .i64 0, .int .i64 0], .int .i64 e]) (by simp [results, Tryz.results52, go_sem, y0, z0, y1, z1, lz]) rfl ⟨rfl, (below2 hB (by omega) _ _).drew⟩)
end Go.Proofs.YtnfapdmbkpkkdaaGreat
