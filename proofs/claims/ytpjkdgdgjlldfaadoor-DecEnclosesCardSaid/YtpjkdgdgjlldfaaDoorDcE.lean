/-
  DecEncloses: the walk.
-/
import Derived.Test.YtpjkdgdgjlldfaaDoorDcK
import Derived.Test.YtpjkdgdgjlldfaaDoorFixJ
import Derived.Deep.DeepCutAuto
namespace Go.Proofs.YtpjkdgdgjlldfaaDoor
open Go.RowKit

theorem pow2_bd (k : Nat) (m : Nat) (h : k < m) (hm : m ≤ 60) : 1 ≤ ((2 : Int) ^ k) ∧ ((2 : Int) ^ k) ≤ 2 ^ (m - 1) := by
  have h1 : (2 ^ k : Nat) ≤ 2 ^ (m - 1) := Nat.pow_le_pow_right (by omega) (by omega)
  have h2 : 0 < (2 ^ k : Nat) := Nat.pow_pos (by omega)
  have e1 : ((2 : Int) ^ k) = ((2 ^ k : Nat) : Int) := by rw [Int.natCast_pow]; rfl
  have e2 : ((2 : Int) ^ (m - 1)) = ((2 ^ (m - 1) : Nat) : Int) := by rw [Int.natCast_pow]; rfl
  rw [e1, e2]; omega
theorem tmod_bd (a T : Int) (hT : 0 < T) : -(T - 1) ≤ a.tmod T ∧ a.tmod T ≤ T - 1 := by
  rcases Int.le_total 0 a with h | h
  · have := Int.tmod_nonneg T h
    have := Int.tmod_lt_of_pos a hT
    omega
  · obtain ⟨b, rfl⟩ : ∃ b, a = -b := ⟨-a, by omega⟩
    rw [Int.neg_tmod]
    have := Int.tmod_nonneg T (show 0 ≤ b by omega)
    have := Int.tmod_lt_of_pos b hT
    omega
set_option maxHeartbeats 1000000 in
theorem drSpan_any (a b c : Int) (b0 : 0 ≤ b) (b1 : b ≤ 255) (c0 : 0 ≤ c) (c1 : c ≤ 4294967295) :
    ∃ lo hi : Int, ckS lo hi = 0 ∧ ∀ w, Calls Tryd.prog 14 #[.agg #[.int .i64 a, .int .u8 b, .int .u32 c]] w fun r w' => r = .returned (.agg #[.int .i64 lo, .int .i64 hi]) ∧ Below w.heap.size w w' := by
  obtain ⟨p0, p1⟩ := pow2_bd (b % 52).toNat 52 (by omega) (by omega)
  obtain ⟨T, hT⟩ : ∃ T : Int, (2 : Int) ^ (b % 52).toNat = T := ⟨_, rfl⟩
  rw [hT] at p0 p1
  have p1' : T ≤ 2251799813685248 := p1
  have hw : wrap64 T = T := IntWalk.wrap64_in _ (by omega)
  have hw1 : wrap64 (T + 1) = T + 1 := IntWalk.wrap64_in _ (by omega)
  obtain ⟨t0, t1⟩ := tmod_bd a (T + 1) (by omega)
  obtain ⟨lo, hlo⟩ : ∃ lo, a.tmod (T + 1) = lo := ⟨_, rfl⟩
  rw [hlo] at t0 t1
  obtain ⟨hi, hhi⟩ : ∃ hi, min (lo + c) 4503599627370496 = hi := ⟨_, rfl⟩
  have hw2 : wrap64 (lo + c) = lo + c := IntWalk.wrap64_in _ (by omega)
  have hne : (T + 1 == 0) = false := by simp; omega
  refine ⟨lo, hi, ckS_ok (by omega) (by omega) (by omega), fun w => ?_⟩
  clear p1
  go_enter Tryd.func14, Tryd.ntmps14
  go_wp2
  exact bodyPost_ret (v := .agg #[.int .i64 lo, .int .i64 hi]) (by simp [results, Tryd.results14, go_sem]) rfl ⟨rfl, by (repeat (first | with_reducible exact Below.refl _ _ | with_reducible assumption | refine Below.alloc ?_ (by (try simp); try omega) _ | refine Below.setCell ?_ (by (try simp); try omega) _ | refine below_drewN ?_ _ | refine Below.drew ?_ | (with_reducible refine Below.trans ?_ (Below.mono (by assumption) (by (try simp); try omega)))))⟩
set_option maxHeartbeats 1000000 in
theorem drSmall_any (a b c : Int) (b0 : 0 ≤ b) (b1 : b ≤ 255) (c0 : 0 ≤ c) (c1 : c ≤ 4294967295) :
    ∃ lo hi : Int, ckS lo hi = 0 ∧ ∀ w, Calls Tryd.prog 15 #[.agg #[.int .i64 a, .int .u8 b, .int .u32 c]] w fun r w' => r = .returned (.agg #[.int .i64 lo, .int .i64 hi]) ∧ Below w.heap.size w w' := by
  obtain ⟨p0, p1⟩ := pow2_bd (b % 37).toNat 37 (by omega) (by omega)
  obtain ⟨T, hT⟩ : ∃ T : Int, (2 : Int) ^ (b % 37).toNat = T := ⟨_, rfl⟩
  rw [hT] at p0 p1
  have p1' : T ≤ 68719476736 := p1
  have hw : wrap64 T = T := IntWalk.wrap64_in _ (by omega)
  have hw1 : wrap64 (T + 1) = T + 1 := IntWalk.wrap64_in _ (by omega)
  obtain ⟨t0, t1⟩ := tmod_bd a (T + 1) (by omega)
  obtain ⟨lo, hlo⟩ : ∃ lo, a.tmod (T + 1) = lo := ⟨_, rfl⟩
  rw [hlo] at t0 t1
  obtain ⟨S, hS⟩ : ∃ S : Int, (2 : Int) ^ (b % 32).toNat = S := ⟨_, rfl⟩
  have s0 : 1 ≤ S := by rw [← hS]; exact (pow2_bd (b % 32).toNat 32 (by omega) (by omega)).1
  have q0 : 0 ≤ c / S := Int.ediv_nonneg c0 (by omega)
  have q1 : c / S ≤ c := Int.ediv_le_self _ c0
  obtain ⟨q, hq⟩ : ∃ q, c / S = q := ⟨_, rfl⟩
  rw [hq] at q0 q1
  obtain ⟨hi, hhi⟩ : ∃ hi, lo + q = hi := ⟨_, rfl⟩
  have hw2 : wrap64 hi = hi := IntWalk.wrap64_in _ (by omega)
  have hne : (T + 1 == 0) = false := by simp; omega
  refine ⟨lo, hi, ckS_ok (by omega) (by omega) (by omega), fun w => ?_⟩
  clear p1
  go_enter Tryd.func15, Tryd.ntmps15
  go_wp2
  exact bodyPost_ret (v := .agg #[.int .i64 lo, .int .i64 hi]) (by simp [results, Tryd.results15, go_sem]) rfl ⟨rfl, by (repeat (first | with_reducible exact Below.refl _ _ | with_reducible assumption | refine Below.alloc ?_ (by (try simp); try omega) _ | refine Below.setCell ?_ (by (try simp); try omega) _ | refine below_drewN ?_ _ | refine Below.drew ?_ | (with_reducible refine Below.trans ?_ (Below.mono (by assumption) (by (try simp); try omega)))))⟩


theorem rq_bd (up : Bool) {L P : Int} (hp : 0 < P) (l0 : -(1048576 * P) ≤ L) (l1 : L ≤ 1048576 * P) : -4503599627370496 ≤ rq up (L * 4294967296) P ∧ rq up (L * 4294967296) P ≤ 4503599627370496 := by
  have h0 : -4503599627370496 * P ≤ L * 4294967296 := by omega
  have h1 : L * 4294967296 ≤ 4503599627370496 * P := by omega
  generalize L * 4294967296 = y at *
  unfold rq
  cases up
  · simp only [Bool.false_eq_true, if_false]
    exact ⟨(Int.le_ediv_iff_mul_le hp).2 h0, Int.le_of_lt_add_one (Int.ediv_lt_of_lt_mul hp (by omega))⟩
  · simp only [if_true]
    have a1 : -4503599627370496 ≤ (-y) / P := (Int.le_ediv_iff_mul_le hp).2 (by omega)
    have a2 : (-y) / P < 4503599627370497 := Int.ediv_lt_of_lt_mul hp (by omega)
    omega
theorem lim_in {x : Int} (h0 : -4503599627370496 ≤ x) (h1 : x ≤ 4503599627370496) : lim x = (x, 0) := by unfold lim; rw [if_neg (by omega)]
theorem decR_in (L : Int) (d : Nat) (hd : d ≤ 12) (l0 : -(1048576 * ((10 ^ d : Nat) : Int)) ≤ L) (l1 : L ≤ 1048576 * ((10 ^ d : Nat) : Int)) :
    decR L d = (rq false (L * 4294967296) ((10 ^ d : Nat) : Int), rq true (L * 4294967296) ((10 ^ d : Nat) : Int), 0) := by
  have hpp : 0 < 10 ^ d := Nat.pow_pos (by omega)
  have b1 := rq_bd false (P := ((10 ^ d : Nat) : Int)) (by omega) l0 l1
  have b2 := rq_bd true (P := ((10 ^ d : Nat) : Int)) (by omega) l0 l1
  unfold decR
  rw [if_neg (by omega), show ((d : Int)).toNat = d by omega, lim_in b1.1 b1.2, lim_in b2.1 b2.2, if_pos ⟨rfl, rfl⟩]
set_option maxRecDepth 100000 in
set_option maxHeartbeats 8000000 in
theorem decEncloses_true (v a b c g : Int) (w : World) (v0 : -9223372036854775808 ≤ v) (v1 : v ≤ 9223372036854775807) (b0 : 0 ≤ b) (b1 : b ≤ 255) (c0 : 0 ≤ c) (c1 : c ≤ 4294967295) (g0 : -9223372036854775808 ≤ g) (g1 : g ≤ 9223372036854775807) (hP0 : Pw w) (hE0 : Er w) (hT0 : Tens w) :
    Calls Tryd.prog 5 #[.int .i64 v, .agg #[.int .i64 a, .int .u8 b, .int .u32 c], .int .i64 g] w fun e w' => e = .returned (.bool true) ∧ Below w.heap.size w w' := by
  have hw := fun u h1 h2 => works_true u h1 h2
  obtain ⟨lo, hi, kA, hS⟩ := drSpan_any a b c b0 b1 c0 c1
  obtain ⟨slo, shi, kB, hM⟩ := drSmall_any a b c b0 b1 c0 c1
  obtain ⟨x0, hx0, y0, y1⟩ : ∃ x, v.tmod 4503599627370497 = x ∧ -4503599627370496 ≤ x ∧ x ≤ 4503599627370496 := by
    obtain ⟨t0, t1⟩ := tmod_bd v 4503599627370497 (by omega)
    exact ⟨_, rfl, by omega, by omega⟩
  have wx : IntKind.i64.wrap x0 = x0 := IntWalk.i64_in _ (by omega)
  have bD := Bn.new w #[.int .i64 a, .int .u8 b, .int .u32 c] 39
  have hB : Below w.heap.size w (w.alloc (.cells #[.int .i64 a, .int .u8 b, .int .u32 c] 39)) := by (repeat (first | with_reducible exact Below.refl _ _ | with_reducible assumption | refine Below.alloc ?_ (by (try simp); try omega) _ | refine Below.setCell ?_ (by (try simp); try omega) _ | refine below_drewN ?_ _ | refine Below.drew ?_ | (with_reducible refine Below.trans ?_ (Below.mono (by assumption) (by (try simp); try omega)))))
  have hPa := hP0.keep hB
  have hEa := hE0.keep hB
  go_enter Tryd.func5, Tryd.ntmps5
  go_wp2_with fail
  go_at_call 7
  (with_reducible refine (hw _ hPa hEa).mono ?_)
  rintro e u0 ⟨rfl, hb⟩
  replace bD := bD.keep hb
  replace hB := belowVia hB hb
  clear hb hPa hEa hw
  obtain ⟨d, hd, hd17⟩ : ∃ d : Nat, wrap64 ((IntKind.u64.wrap g).tmod 13) = (d : Int) ∧ d ≤ 12 := by
    have hu : 0 ≤ IntKind.u64.wrap g := by unfold IntKind.wrap; simp [IntKind.signed, IntKind.bits]; omega
    generalize IntKind.u64.wrap g = U at *
    rw [Int.tmod_eq_emod_of_nonneg hu]
    refine ⟨(U % 13).toNat, ?_, by omega⟩
    have e : wrap64 (U % 13) = U % 13 := by unfold wrap64; omega
    rw [e]; omega
  have cD0 := bD.cell 0 (.int .i64 a) rfl
  have cD1 := bD.cell 1 (.int .u8 b) rfl
  have cD2 := bD.cell 2 (.int .u32 c) rfl
  go_wp2_with (go_at_call 14; (with_reducible refine (hS _).mono ?_); rintro e u1 ⟨rfl, hb⟩)
  clear hd cD0 cD1 cD2 hS
  replace bD := (bD.keep hb).alloc (.cells #[.int .i64 lo, .int .i64 hi] 41)
  have bX := Bn.new u1 #[.int .i64 lo, .int .i64 hi] 41
  replace hB : Below w.heap.size w (u1.alloc (.cells #[.int .i64 lo, .int .i64 hi] 41)) := (belowVia hB hb).alloc (belowVia hB hb).size _
  clear hb
  generalize hz : w.heap.size = z at *
  generalize u1.heap.size = y at *
  generalize (u1.alloc (.cells #[.int .i64 lo, .int .i64 hi] 41)) = v1_ at *
  go_cut [41, 42] from 24 to 144 (fun vt vj wx => vt = .agg #[.int .i64 x0, .int .i64 lo, .int .i64 hi, .int .i64 slo] ∧ vj = .int .i64 0 ∧ Below z w wx)
  case first =>
    have d0 : v1_.cell? ⟨y, 0, none⟩ = some (.int .i64 lo) := bX.cell 0 _ rfl
    have d1 : v1_.cell? ⟨y, 1, none⟩ = some (.int .i64 hi) := bX.cell 1 _ rfl
    have d2 : v1_.cell? ⟨z, 0, none⟩ = some (.int .i64 a) := bD.cell 0 _ rfl
    have d3 : v1_.cell? ⟨z, 1, none⟩ = some (.int .u8 b) := bD.cell 1 _ rfl
    have d4 : v1_.cell? ⟨z, 2, none⟩ = some (.int .u32 c) := bD.cell 2 _ rfl
    have hfd : ∀ w, (Instr.field 41 (.agg #[.int .i64 slo, .int .i64 shi]) 0).run Tryd.prog w = .ok (.int .i64 slo) w := fun w => by kernel_rfl
    go_region_held3 (fun w' => w'.cell? ⟨y, 0, none⟩ = some (.int .i64 lo) ∧ w'.cell? ⟨y, 1, none⟩ = some (.int .i64 hi) ∧ w'.cell? ⟨z, 0, none⟩ = some (.int .i64 a) ∧ w'.cell? ⟨z, 1, none⟩ = some (.int .u8 b) ∧ w'.cell? ⟨z, 2, none⟩ = some (.int .u32 c))
      (first | with_reducible exact ⟨d0, d1, d2, d3, d4⟩ | with_reducible exact ⟨cellDrewI d0, cellDrewI d1, cellDrewI d2, cellDrewI d3, cellDrewI d4⟩)
      (first | (go_at_call 15; (with_reducible refine (hM _).mono ?_); rintro rr uz ⟨rfl, hb⟩; (with_reducible (first | (replace hb := vUndrew hb) | skip)); replace d0 := dkeep hb d0; replace d1 := dkeep hb d1; replace d2 := dkeep hb d2; replace d3 := dkeep hb d3; replace d4 := dkeep hb d4; replace hB := hB.trans (hb.mono (by have := hB.size; omega)); clear hb))
    all_goals (go_wp2_with fail; go_meet)
    all_goals exact ⟨rfl, rfl, hB⟩
  case rest =>
    clear hB bD bX hM
    obtain ⟨rfl, rfl, hB⟩ := hcut
    have bd1 : -4503599627370496 ≤ lo ∧ lo ≤ hi ∧ hi ≤ 4503599627370496 := by unfold ckS at kA; split at kA <;> omega
    have bd2 : -4503599627370496 ≤ slo ∧ slo ≤ shi ∧ shi ≤ 4503599627370496 := by unfold ckS at kB; split at kB <;> omega
    have hidx : ∀ k : Int, 0 ≤ k → k < 4 → ∃ m : Int, (∀ w, (Instr.index 43 (.agg #[.int .i64 x0, .int .i64 lo, .int .i64 hi, .int .i64 slo]) (.int .i64 k)).run Tryd.prog w = .ok (.int .i64 m) w) ∧ -4503599627370496 ≤ m ∧ m ≤ 4503599627370496 := by
      intro k h0 h1
      obtain rfl | rfl | rfl | rfl : k = 0 ∨ k = 1 ∨ k = 2 ∨ k = 3 := by omega
      · exact ⟨x0, fun _ => by kernel_rfl, by omega, by omega⟩
      · exact ⟨lo, fun _ => by kernel_rfl, by omega, by omega⟩
      · exact ⟨hi, fun _ => by kernel_rfl, by omega, by omega⟩
      · exact ⟨slo, fun _ => by kernel_rfl, by omega, by omega⟩
    replace hidx := Lib.hid hidx
    clear kA kB bd1 bd2 hx0 y0 y1 wx
    go_wp2_with fail
    go_loopw [42] (fun vi wr => ∃ k : Int, 0 ≤ k ∧ k ≤ 4 ∧ vi = .int .i64 k ∧ Below z w wr) (fun vi _ => 4 - (intOf vi).toNat)
    case atStart => exact ⟨0, by omega, by omega, rfl, hB⟩
    case round =>
      clear hB
      obtain ⟨k, k0, k4, rfl, hB⟩ := hrel
      subst hz
      have hP := hP0.keep hB
      have hE := hE0.keep hB
      have hT := hT0.below hB
      by_cases hk : k < 4
      · obtain ⟨m, hi_, m0, m1⟩ := hidx.out k k0 hk
        have hpp : 0 < 10 ^ d := Nat.pow_pos (by omega)
        have hp12 : (10 : Nat) ^ d ≤ 10 ^ 12 := Nat.pow_le_pow_right (by omega) hd17
        have bl := fx_bd false m0 m1 (P := ((10 ^ d : Nat) : Int)) (by omega)
        have bh := fx_bd true m0 m1 (P := ((10 ^ d : Nat) : Int)) (by omega)
        have f1 := fun w h => fixed_in m d false w m0 m1 hd17 h
        have f2 := fun w h => fixed_in m d true w m0 m1 hd17 h
        have p1 := fun w h => parse_back (fxN false m ((10 ^ d : Nat) : Int)) d w (by omega) (by omega) (by omega) h
        have p2 := fun w h => parse_back (fxN true m ((10 ^ d : Nat) : Int)) d w (by omega) (by omega) (by omega) h
        have q1 := fun w h => fromDec_any (fxN false m ((10 ^ d : Nat) : Int)) d w h (by omega) (by omega)
        have q2 := fun w h => fromDec_any (fxN true m ((10 ^ d : Nat) : Int)) d w h (by omega) (by omega)
        rw [decR_in _ d hd17 bl.1 bl.2] at q1
        rw [decR_in _ d hd17 bh.1 bh.2] at q2
        have h1 := fx_low m ((10 ^ d : Nat) : Int) (by omega)
        have h2 := fx_high m ((10 ^ d : Nat) : Int) (by omega)
        have h3 := fx_two m ((10 ^ d : Nat) : Int)
        have hb1 := fun w h => both_in m m d w (ckS_ok m0 (by omega) m1) hd17 h
        have l1 := txt_len (fxN false m ((10 ^ d : Nat) : Int)) d (by omega) (by omega) (by omega)
        have l2 := txt_len (fxN true m ((10 ^ d : Nat) : Int)) d (by omega) (by omega) (by omega)
        have wl : IntKind.i64.wrap (fxN false m ((10 ^ d : Nat) : Int) + 1) = fxN false m ((10 ^ d : Nat) : Int) + 1 := IntWalk.i64_in _ (by omega)
        generalize txt (fxN false m ((10 ^ d : Nat) : Int)) d = X at *
        generalize txt (fxN true m ((10 ^ d : Nat) : Int)) d = Y at *
        generalize rq false (fxN false m ((10 ^ d : Nat) : Int) * 4294967296) ((10 ^ d : Nat) : Int) = r1 at *
        generalize rq true (fxN false m ((10 ^ d : Nat) : Int) * 4294967296) ((10 ^ d : Nat) : Int) = r2 at *
        generalize rq false (fxN true m ((10 ^ d : Nat) : Int) * 4294967296) ((10 ^ d : Nat) : Int) = r3 at *
        generalize rq true (fxN true m ((10 ^ d : Nat) : Int) * 4294967296) ((10 ^ d : Nat) : Int) = r4 at *
        generalize fxN false m ((10 ^ d : Nat) : Int) = F at *
        generalize fxN true m ((10 ^ d : Nat) : Int) = G at *
        have c1 : ∀ w, (Op.stringOp .add ⟨#[91]⟩ (bs X)).run Tryd.prog w = .ok (.string (bs ([91] ++ X))) w := fun w => by
          rw [show (⟨#[91]⟩ : ByteArray) = bs [91] from rfl]; exact add_run [91] X (by simp) (by omega) w
        have c2 : ∀ w, (Op.stringOp .add (bs ([91] ++ X)) ⟨#[44, 32]⟩).run Tryd.prog w = .ok (.string (bs ([91] ++ X ++ [44, 32]))) w := fun w => by
          rw [show (⟨#[44, 32]⟩ : ByteArray) = bs [44, 32] from rfl]; exact add_run ([91] ++ X) [44, 32] (by simp; omega) (by simp) w
        have c3 := add_run ([91] ++ X ++ [44, 32]) Y (by simp; omega) (by omega)
        have c4 : ∀ w, (Op.stringOp .add (bs ([91] ++ X ++ [44, 32] ++ Y)) ⟨#[93]⟩).run Tryd.prog w = .ok (.string (bs ([91] ++ X ++ [44, 32] ++ Y ++ [93]))) w := fun w => by
          rw [show (⟨#[93]⟩ : ByteArray) = bs [93] from rfl]; exact add_run ([91] ++ X ++ [44, 32] ++ Y) [93] (by simp; omega) (by simp) w
        generalize [91] ++ X ++ [44, 32] ++ Y ++ [93] = s4 at *
        generalize [91] ++ X ++ [44, 32] ++ Y = s3 at *
        generalize [91] ++ X ++ [44, 32] = s2 at *
        generalize [91] ++ X = s1 at *
        have qs : ((bs s4).toList == (bs s4).toList) = true := by simp
        clear hidx bl bh hpp hp12 l1 l2
        rcases h3 with rfl | rfl
        all_goals
          go_wp2_with fail
          go_at_call 16
          (with_reducible refine (f1 _ hP).mono ?_)
          rintro e ua ⟨rfl, hb⟩
          replace hB := belowVia hB hb
          replace hP := hP.keep hb
          replace hE := hE.keep hb
          replace hT := hT.below hb
          clear hb
          go_wp2_with fail
          go_at_call 16
          (with_reducible refine (f2 _ hP).mono ?_)
          rintro e ub ⟨rfl, hb⟩
          replace hB := belowVia hB hb
          replace hP := hP.keep hb
          replace hE := hE.keep hb
          replace hT := hT.below hb
          clear hb
          go_wp2_with fail
          go_at_call 12
          (with_reducible refine (p1 _ hE).mono ?_)
          rintro e uc ⟨rfl, hb⟩
          replace hB := belowVia hB hb
          replace hP := hP.keep hb
          replace hE := hE.keep hb
          replace hT := hT.below hb
          clear hb
          go_wp2_with fail
          go_at_call 12
          (with_reducible refine (p2 _ hE).mono ?_)
          rintro e ud ⟨rfl, hb⟩
          replace hB := belowVia hB hb
          replace hP := hP.keep hb
          replace hE := hE.keep hb
          replace hT := hT.below hb
          clear hb
          go_wp2_with fail
          go_at_call 17
          (with_reducible refine (q1 _ hT).mono ?_)
          rintro e ue ⟨rfl, hb⟩
          replace hB := belowVia hB hb
          replace hP := hP.keep hb
          replace hE := hE.keep hb
          replace hT := hT.below hb
          clear hb
          go_wp2_with fail
          go_at_call 17
          (with_reducible refine (q2 _ hT).mono ?_)
          rintro e uf ⟨rfl, hb⟩
          replace hB := belowVia hB hb
          replace hP := hP.keep hb
          replace hE := hE.keep hb
          replace hT := hT.below hb
          clear hb
          go_wp2_with fail
          go_at_call 18
          (with_reducible refine (hb1 _ hP).mono ?_)
          rintro e ug ⟨rfl, hb⟩
          replace hB := belowVia hB hb
          replace hP := hP.keep hb
          replace hE := hE.keep hb
          replace hT := hT.below hb
          clear hb
          go_wp2_with fail
          go_roundw
          case rel => exact ⟨k + 1, by omega, by omega, by go_num, hB⟩
          case measure => simp [intOf]; omega
      · go_wp2
        go_ret
        exact ⟨rfl, hB⟩
end Go.Proofs.YtpjkdgdgjlldfaaDoor
