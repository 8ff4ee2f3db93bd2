/-
  Package dec: Fixed, Both; the closures by which the statements look at results.
-/
import Derived.Test.YtpjkdgdgjlldfaaGreatDoorDcU
import Derived.Test.YtpjkdgdgjlldfaaGreatDoorDcP
import Derived.Test.YtpjkdgdgjlldfaaGreatDoorDcF
import Derived.Test.YtpjkdgdgjlldfaaGreatDoorSpA
import Derived.Laws.EntriesVeiled
namespace Go.Proofs.YtpjkdgdgjlldfaaGreatDoor
open Go.RowKit
set_option maxRecDepth 100000 in
set_option maxHeartbeats 1000000 in
theorem rounding_true (w : World) : Calls Tryz.prog 37 #[.bool true] w fun e w' => e = .returned (.agg #[.func (.func 78) #[] #[]]) ∧ Below w.heap.size w w' := by
  go_enter Tryz.func37, Tryz.ntmps37
  go_wp2
  exact bodyPost_ret (v := .agg #[.func (.func 78) #[] #[]]) (by simp [results, Tryz.results37, go_sem]) rfl ⟨rfl, by (repeat (first | with_reducible exact Below.refl _ _ | with_reducible assumption | refine Below.alloc ?_ (by (try simp); try omega) _ | refine Below.setCell ?_ (by (try simp); try omega) _ | refine below_drewN ?_ _ | refine Below.drew ?_ | (with_reducible refine Below.trans ?_ (Below.mono (by assumption) (by (try simp); try omega)))))⟩
set_option maxRecDepth 100000 in
set_option maxHeartbeats 1000000 in
theorem multiple_true (v P : Int) (w : World) (v0 : -4503599627370496 ≤ v) (v1 : v ≤ 4503599627370496) (p0 : 0 < P) (p1 : P ≤ 1000000000000) :
    Calls Tryz.prog 38 #[.agg #[.func (.func 78) #[] #[]], .int .i64 v, .int .i64 P] w fun e w' => e = .returned (.tuple #[.int .i64 (fxN true v P), .int .i64 0]) ∧ Below w.heap.size w w' := by
  have hm := fx_mult true v P
  have r0 : -4294967296 < v.tmod 4294967296 ∧ v.tmod 4294967296 < 4294967296 := ⟨Int.lt_tmod_of_pos _ (by omega), Int.tmod_lt_of_pos _ (by omega)⟩
  have q0 : -1048576 ≤ v.tdiv 4294967296 ∧ v.tdiv 4294967296 ≤ 1048576 := by
    have h := Int.tmod_add_mul_tdiv v 4294967296
    have h2 := Int.sign_tmod v 4294967296
    generalize v.tdiv 4294967296 = q at *
    generalize v.tmod 4294967296 = r at *
    omega
  have hq : -(1048576 * P) ≤ v.tdiv 4294967296 * P ∧ v.tdiv 4294967296 * P ≤ 1048576 * P := by
    have h0 := Int.mul_le_mul_of_nonneg_right q0.1 (show 0 ≤ P by omega)
    have h1 := Int.mul_le_mul_of_nonneg_right q0.2 (show 0 ≤ P by omega)
    omega
  have hx : -4503599627370496 ≤ rq true (v.tmod 4294967296 * P) 4294967296 ∧ rq true (v.tmod 4294967296 * P) 4294967296 ≤ 4503599627370496 := by
    have h0 : -4294967296 * P ≤ v.tmod 4294967296 * P := Int.mul_le_mul_of_nonneg_right (by omega) (by omega)
    have h1 : v.tmod 4294967296 * P ≤ 4294967296 * P := Int.mul_le_mul_of_nonneg_right (by omega) (by omega)
    unfold rq
    generalize v.tmod 4294967296 * P = x at *
    simp only [if_true]; omega
  have hs := fun w => scaleUp_any (v.tmod 4294967296) P 4294967296 w (by omega) (by omega)
  have he : scaleR true (v.tmod 4294967296) P 4294967296 = (rq true (v.tmod 4294967296 * P) 4294967296, 0) := by
    unfold scaleR
    rw [if_pos ⟨by unfold ckErr; rw [if_neg (by omega)], by omega, by omega, by omega, by omega⟩]
    unfold lim
    rw [if_neg (by omega)]
  rw [he] at hs
  clear he
  generalize rq true (v.tmod 4294967296 * P) 4294967296 = x at *
  obtain ⟨y, hy⟩ : ∃ y, v.tdiv 4294967296 * P = y := ⟨_, rfl⟩
  rw [hy] at hm hq
  have g1 : IntKind.i64.wrap (v.tdiv 4294967296) = v.tdiv 4294967296 := IntWalk.i64_in _ (by omega)
  have g2 : IntKind.i64.wrap (v.tmod 4294967296) = v.tmod 4294967296 := IntWalk.i64_in _ (by omega)
  have g3 : IntKind.i64.wrap y = y := IntWalk.i64_in _ (by omega)
  have g4 : IntKind.i64.wrap (y + x) = y + x := IntWalk.i64_in _ (by omega)
  have hm' := Lib.hid hm
  clear hm
  go_enter Tryz.func38, Tryz.ntmps38
  go_wp2_with (go_at_call 78; (with_reducible refine (hs _).mono ?_); rintro e w1 ⟨rfl, hb⟩)
  go_ret2
  exact ⟨by rw [← hm'.out]; rfl, ((Below.refl w.heap.size w).alloc (Nat.le_refl _) _).trans (hb.mono (by simp))⟩
set_option maxRecDepth 100000 in
set_option maxHeartbeats 1000000 in
theorem rounding_false (w : World) : Calls Tryz.prog 37 #[.bool false] w fun e w' => e = .returned (.agg #[.func (.func 77) #[] #[]]) ∧ Below w.heap.size w w' := by
  go_enter Tryz.func37, Tryz.ntmps37
  go_wp2
  exact bodyPost_ret (v := .agg #[.func (.func 77) #[] #[]]) (by simp [results, Tryz.results37, go_sem]) rfl ⟨rfl, by (repeat (first | with_reducible exact Below.refl _ _ | with_reducible assumption | refine Below.alloc ?_ (by (try simp); try omega) _ | refine Below.setCell ?_ (by (try simp); try omega) _ | refine below_drewN ?_ _ | refine Below.drew ?_ | (with_reducible refine Below.trans ?_ (Below.mono (by assumption) (by (try simp); try omega)))))⟩
set_option maxRecDepth 100000 in
set_option maxHeartbeats 1000000 in
theorem multiple_false (v P : Int) (w : World) (v0 : -4503599627370496 ≤ v) (v1 : v ≤ 4503599627370496) (p0 : 0 < P) (p1 : P ≤ 1000000000000) :
    Calls Tryz.prog 38 #[.agg #[.func (.func 77) #[] #[]], .int .i64 v, .int .i64 P] w fun e w' => e = .returned (.tuple #[.int .i64 (fxN false v P), .int .i64 0]) ∧ Below w.heap.size w w' := by
  have hm := fx_mult false v P
  have r0 : -4294967296 < v.tmod 4294967296 ∧ v.tmod 4294967296 < 4294967296 := ⟨Int.lt_tmod_of_pos _ (by omega), Int.tmod_lt_of_pos _ (by omega)⟩
  have q0 : -1048576 ≤ v.tdiv 4294967296 ∧ v.tdiv 4294967296 ≤ 1048576 := by
    have h := Int.tmod_add_mul_tdiv v 4294967296
    have h2 := Int.sign_tmod v 4294967296
    generalize v.tdiv 4294967296 = q at *
    generalize v.tmod 4294967296 = r at *
    omega
  have hq : -(1048576 * P) ≤ v.tdiv 4294967296 * P ∧ v.tdiv 4294967296 * P ≤ 1048576 * P := by
    have h0 := Int.mul_le_mul_of_nonneg_right q0.1 (show 0 ≤ P by omega)
    have h1 := Int.mul_le_mul_of_nonneg_right q0.2 (show 0 ≤ P by omega)
    omega
  have hx : -4503599627370496 ≤ rq false (v.tmod 4294967296 * P) 4294967296 ∧ rq false (v.tmod 4294967296 * P) 4294967296 ≤ 4503599627370496 := by
    have h0 : -4294967296 * P ≤ v.tmod 4294967296 * P := Int.mul_le_mul_of_nonneg_right (by omega) (by omega)
    have h1 : v.tmod 4294967296 * P ≤ 4294967296 * P := Int.mul_le_mul_of_nonneg_right (by omega) (by omega)
    unfold rq
    generalize v.tmod 4294967296 * P = x at *
    simp only [Bool.false_eq_true, if_false]; omega
  have hs := fun w => scaleDown_any (v.tmod 4294967296) P 4294967296 w (by omega) (by omega)
  have he : scaleR false (v.tmod 4294967296) P 4294967296 = (rq false (v.tmod 4294967296 * P) 4294967296, 0) := by
    unfold scaleR
    rw [if_pos ⟨by unfold ckErr; rw [if_neg (by omega)], by omega, by omega, by omega, by omega⟩]
    unfold lim
    rw [if_neg (by omega)]
  rw [he] at hs
  clear he
  generalize rq false (v.tmod 4294967296 * P) 4294967296 = x at *
  obtain ⟨y, hy⟩ : ∃ y, v.tdiv 4294967296 * P = y := ⟨_, rfl⟩
  rw [hy] at hm hq
  have g1 : IntKind.i64.wrap (v.tdiv 4294967296) = v.tdiv 4294967296 := IntWalk.i64_in _ (by omega)
  have g2 : IntKind.i64.wrap (v.tmod 4294967296) = v.tmod 4294967296 := IntWalk.i64_in _ (by omega)
  have g3 : IntKind.i64.wrap y = y := IntWalk.i64_in _ (by omega)
  have g4 : IntKind.i64.wrap (y + x) = y + x := IntWalk.i64_in _ (by omega)
  have hm' := Lib.hid hm
  clear hm
  go_enter Tryz.func38, Tryz.ntmps38
  go_wp2_with (go_at_call 77; (with_reducible refine (hs _).mono ?_); rintro e w1 ⟨rfl, hb⟩)
  go_ret2
  exact ⟨by rw [← hm'.out]; rfl, ((Below.refl w.heap.size w).alloc (Nat.le_refl _) _).trans (hb.mono (by simp))⟩
/-- What Fixed returns. -/
def fR (v d : Int) (up : Bool) : List UInt8 × Int := if ckErr v = 0 then (if d < 0 ∨ 12 < d then ([], 2) else (txt (fxN up v ((10 ^ d.toNat : Nat) : Int)) d.toNat, 0)) else ([], 2)
set_option maxRecDepth 100000 in
set_option maxHeartbeats 1000000 in
theorem fixed_in (v : Int) (d : Nat) (up : Bool) (w : World) (v0 : -4503599627370496 ≤ v) (v1 : v ≤ 4503599627370496) (hd : d ≤ 12) (hP : Pw w) :
    Calls Tryz.prog 13 #[.int .i64 v, .int .i64 (d : Int), .bool up] w fun e w' => e = .returned (.tuple #[.string (bs (txt (fxN up v ((10 ^ d : Nat) : Int)) d)), .int .i64 0]) ∧ Below w.heap.size w w' := by
  have hc := fun w => check_any v w
  rw [ckErr_ok v0 v1] at hc
  have hp := fun w => power_any d w (by omega)
  have hp12 : (10 : Nat) ^ d ≤ 10 ^ 12 := Nat.pow_le_pow_right (by omega) hd
  have hpp : 0 < 10 ^ d := Nat.pow_pos (by omega)
  have hf := fx_bd up v0 v1 (P := ((10 ^ d : Nat) : Int)) (by omega)
  have ht := fun w h => text_ok (fxN up v ((10 ^ d : Nat) : Int)) d w (by omega) (by omega) (by omega) h
  have h12 : (d : Int) ≤ 12 := by omega
  cases up
  · have hr := rounding_false
    have hm := fun w => multiple_false v ((10 ^ d : Nat) : Int) w v0 v1 (by omega) (by omega)
    generalize fxN false v ((10 ^ d : Nat) : Int) = F at *
    generalize ((10 ^ d : Nat) : Int) = P at *
    clear hf hpp hp12
    go_enter Tryz.func13, Tryz.ntmps13
    go_wp2_with (first | (go_at_call 36; (with_reducible refine (hc _).mono ?_); rintro e w0 ⟨rfl, rfl⟩) | (go_at_call 37; (with_reducible refine (hr _).mono ?_); rintro e w1 ⟨rfl, hb1⟩) | (go_at_call 39; (with_reducible refine (hp _).mono ?_); rintro e w2 ⟨rfl, rfl⟩) | (go_at_call 38; (with_reducible refine (hm _).mono ?_); rintro e w3 ⟨rfl, hb3⟩; have hB3 := hb1.trans (hb3.mono hb1.size)) | (go_at_call 18; refine (ht _ (hP.keep hB3)).mono ?_; rintro e w4 ⟨rfl, hb4⟩))
    go_ret2
    exact ⟨rfl, hB3.trans (hb4.mono hB3.size)⟩
  · have hr := rounding_true
    have hm := fun w => multiple_true v ((10 ^ d : Nat) : Int) w v0 v1 (by omega) (by omega)
    generalize fxN true v ((10 ^ d : Nat) : Int) = F at *
    generalize ((10 ^ d : Nat) : Int) = P at *
    clear hf hpp hp12
    go_enter Tryz.func13, Tryz.ntmps13
    go_wp2_with (first | (go_at_call 36; (with_reducible refine (hc _).mono ?_); rintro e w0 ⟨rfl, rfl⟩) | (go_at_call 37; (with_reducible refine (hr _).mono ?_); rintro e w1 ⟨rfl, hb1⟩) | (go_at_call 39; (with_reducible refine (hp _).mono ?_); rintro e w2 ⟨rfl, rfl⟩) | (go_at_call 38; (with_reducible refine (hm _).mono ?_); rintro e w3 ⟨rfl, hb3⟩; have hB3 := hb1.trans (hb3.mono hb1.size)) | (go_at_call 18; refine (ht _ (hP.keep hB3)).mono ?_; rintro e w4 ⟨rfl, hb4⟩))
    go_ret2
    exact ⟨rfl, hB3.trans (hb4.mono hB3.size)⟩
set_option maxRecDepth 100000 in
set_option maxHeartbeats 1000000 in
theorem both_in (a b : Int) (d : Nat) (w : World) (k : ckS a b = 0) (hd : d ≤ 12) (hP : Pw w) :
    Calls Tryz.prog 15 #[.agg #[.int .i64 a, .int .i64 b], .int .i64 (d : Int)] w fun e w' => e = .returned (.tuple #[.string (bs ([91] ++ txt (fxN false a ((10 ^ d : Nat) : Int)) d ++ [44, 32] ++ txt (fxN true b ((10 ^ d : Nat) : Int)) d ++ [93])), .int .i64 0]) ∧ Below w.heap.size w w' := by
  have hc := fun w => sCheck_any a b w
  rw [k] at hc
  obtain ⟨k0, k1, k2⟩ : -4503599627370496 ≤ a ∧ a ≤ b ∧ b ≤ 4503599627370496 := by unfold ckS at k; split at k <;> omega
  have f1 := fun w h => fixed_in a d false w k0 (by omega) hd h
  have f2 := fun w h => fixed_in b d true w (by omega) k2 hd h
  have hp12 : (10 : Nat) ^ d ≤ 10 ^ 12 := Nat.pow_le_pow_right (by omega) hd
  have hpp : 0 < 10 ^ d := Nat.pow_pos (by omega)
  have b1 := fx_bd false k0 (show a ≤ 4503599627370496 by omega) (P := ((10 ^ d : Nat) : Int)) (by omega)
  have b2 := fx_bd true (show -4503599627370496 ≤ b by omega) k2 (P := ((10 ^ d : Nat) : Int)) (by omega)
  have l1 := txt_len (fxN false a ((10 ^ d : Nat) : Int)) d (by omega) (by omega) (by omega)
  have l2 := txt_len (fxN true b ((10 ^ d : Nat) : Int)) d (by omega) (by omega) (by omega)
  generalize txt (fxN false a ((10 ^ d : Nat) : Int)) d = X at *
  generalize txt (fxN true b ((10 ^ d : Nat) : Int)) d = Y at *
  have c1 : ∀ w, (Op.stringOp .add ⟨#[91]⟩ (bs X)).run Tryz.prog w = .ok (.string (bs ([91] ++ X))) w := fun w => by
    rw [show (⟨#[91]⟩ : ByteArray) = bs [91] from rfl]; exact add_run [91] X (by simp) (by omega) w
  have c2 : ∀ w, (Op.stringOp .add (bs ([91] ++ X)) ⟨#[44, 32]⟩).run Tryz.prog w = .ok (.string (bs ([91] ++ X ++ [44, 32]))) w := fun w => by
    rw [show (⟨#[44, 32]⟩ : ByteArray) = bs [44, 32] from rfl]; exact add_run ([91] ++ X) [44, 32] (by simp; omega) (by simp) w
  have c3 := add_run ([91] ++ X ++ [44, 32]) Y (by simp; omega) (by omega)
  have c4 : ∀ w, (Op.stringOp .add (bs ([91] ++ X ++ [44, 32] ++ Y)) ⟨#[93]⟩).run Tryz.prog w = .ok (.string (bs ([91] ++ X ++ [44, 32] ++ Y ++ [93]))) w := fun w => by
    rw [show (⟨#[93]⟩ : ByteArray) = bs [93] from rfl]; exact add_run ([91] ++ X ++ [44, 32] ++ Y) [93] (by simp; omega) (by simp) w
  generalize [91] ++ X ++ [44, 32] ++ Y ++ [93] = r4 at *
  generalize [91] ++ X ++ [44, 32] ++ Y = r3 at *
  generalize [91] ++ X ++ [44, 32] = r2 at *
  generalize [91] ++ X = r1 at *
  have bX := Bn.new w #[.int .i64 a, .int .i64 b] 35
  have hB : Below w.heap.size w (w.alloc (.cells #[.int .i64 a, .int .i64 b] 35)) := by (repeat (first | with_reducible exact Below.refl _ _ | with_reducible assumption | refine Below.alloc ?_ (by (try simp); try omega) _ | refine Below.setCell ?_ (by (try simp); try omega) _ | refine below_drewN ?_ _ | refine Below.drew ?_ | (with_reducible refine Below.trans ?_ (Below.mono (by assumption) (by (try simp); try omega)))))
  clear k b1 b2 l1 l2 hp12 hpp k0 k1 k2
  go_enter Tryz.func15, Tryz.ntmps15
  go_wp2_with (first | (go_at_call 42; (with_reducible refine (hc _).mono ?_); rintro e w0 ⟨rfl, hb⟩; replace bX := bX.keep hb; replace hB := hB.trans (hb.mono hB.size); clear hb; have cX0 := bX.cell 0 (.int .i64 a) rfl; have cX1 := bX.cell 1 (.int .i64 b) rfl; have kX := bX.lt) | (go_at_call 13; (with_reducible refine (f1 _ (hP.keep hB)).mono ?_); rintro e w1 ⟨rfl, hb⟩; clear cX0 cX1 kX; replace bX := bX.keep hb; replace hB := hB.trans (hb.mono hB.size); clear hb; have cX0 := bX.cell 0 (.int .i64 a) rfl; have cX1 := bX.cell 1 (.int .i64 b) rfl; have kX := bX.lt) | (go_at_call 13; (with_reducible refine (f2 _ (hP.keep hB)).mono ?_); rintro e w2 ⟨rfl, hb⟩; replace hB := hB.trans (hb.mono hB.size)))
  go_ret2
  exact ⟨rfl, hB⟩
set_option maxRecDepth 100000 in
theorem both_no (a b : Int) (d : Int) (w : World) (k : ckS a b = 20) :
    Calls Tryz.prog 15 #[.agg #[.int .i64 a, .int .i64 b], .int .i64 d] w fun e w' => e = .returned (.tuple #[.string (bs []), .int .i64 20]) ∧ Below w.heap.size w w' := by
  have hc := fun w => sCheck_any a b w
  rw [k] at hc
  have hB : Below w.heap.size w (w.alloc (.cells #[.int .i64 a, .int .i64 b] 35)) := by (repeat (first | with_reducible exact Below.refl _ _ | with_reducible assumption | refine Below.alloc ?_ (by (try simp); try omega) _ | refine Below.setCell ?_ (by (try simp); try omega) _ | refine below_drewN ?_ _ | refine Below.drew ?_ | (with_reducible refine Below.trans ?_ (Below.mono (by assumption) (by (try simp); try omega)))))
  clear k
  go_enter Tryz.func15, Tryz.ntmps15
  go_wp2_with (go_at_call 42; (with_reducible refine (hc _).mono ?_); rintro e w0 ⟨rfl, hb⟩; replace hB := hB.trans (hb.mono hB.size))
  go_ret2
  exact ⟨rfl, hB⟩
theorem is_any (s : List UInt8) (w : World) : Calls Tryz.prog 17 #[.string (bs s)] w fun e w' => ∃ g, e = .returned (.func (.func 44) #[] #[.pointer (some ⟨g, 0, none⟩)]) ∧ w'.cell? ⟨g, 0, none⟩ = some (.string (bs s)) ∧ Below w.heap.size w w' := by
  have hb := (Bn.new w #[.string (bs s)] 9).cell 0 (.string (bs s)) rfl
  go_enter Tryz.func17, Tryz.ntmps17
  go_wp2
  go_ret
  exact ⟨_, rfl, hb, by (repeat (first | with_reducible exact Below.refl _ _ | with_reducible assumption | refine Below.alloc ?_ (by (try simp); try omega) _ | refine Below.setCell ?_ (by (try simp); try omega) _ | refine below_drewN ?_ _ | refine Below.drew ?_ | (with_reducible refine Below.trans ?_ (Below.mono (by assumption) (by (try simp); try omega)))))⟩
theorem is1_any (s : List UInt8) (g : Nat) (w : World) (hb : w.cell? ⟨g, 0, none⟩ = some (.string (bs s))) : Calls Tryz.prog 44 #[.string (bs s), .int .i64 0, .pointer (some ⟨g, 0, none⟩)] w fun e w' => e = .returned (.bool true) ∧ w = w' := by
  have q : (s == s) = true := by simp
  have t1 := bs_toList s
  skip
  go_enter Tryz.func44, Tryz.ntmps44
  go_wp2
  go_ret
  exact ⟨rfl, rfl⟩
theorem says_any (s : Int) (w : World) : Calls Tryz.prog 25 #[.int .i64 s] w fun e w' => ∃ g, e = .returned (.func (.func 59) #[] #[.pointer (some ⟨g, 0, none⟩)]) ∧ w'.cell? ⟨g, 0, none⟩ = some (.int .i64 s) ∧ Below w.heap.size w w' := by
  have hb := (Bn.new w #[.int .i64 s] 3).cell 0 (.int .i64 s) rfl
  go_enter Tryz.func25, Tryz.ntmps25
  go_wp2
  go_ret
  exact ⟨_, rfl, hb, by (repeat (first | with_reducible exact Below.refl _ _ | with_reducible assumption | refine Below.alloc ?_ (by (try simp); try omega) _ | refine Below.setCell ?_ (by (try simp); try omega) _ | refine below_drewN ?_ _ | refine Below.drew ?_ | (with_reducible refine Below.trans ?_ (Below.mono (by assumption) (by (try simp); try omega)))))⟩
theorem says1_any (s : Int) (g : Nat) (w : World) (hb : w.cell? ⟨g, 0, none⟩ = some (.int .i64 s)) : Calls Tryz.prog 59 #[.int .i64 s, .int .i64 0, .pointer (some ⟨g, 0, none⟩)] w fun e w' => e = .returned (.bool true) ∧ w = w' := by
  skip
  skip
  skip
  go_enter Tryz.func59, Tryz.ntmps59
  go_wp2
  go_ret
  exact ⟨rfl, rfl⟩
theorem fails_any (s : Int) (w : World) : Calls Tryz.prog 24 #[.int .i64 s] w fun e w' => ∃ g, e = .returned (.func (.func 58) #[] #[.pointer (some ⟨g, 0, none⟩)]) ∧ w'.cell? ⟨g, 0, none⟩ = some (.int .i64 s) ∧ Below w.heap.size w w' := by
  have hb := (Bn.new w #[.int .i64 s] 23).cell 0 (.int .i64 s) rfl
  go_enter Tryz.func24, Tryz.ntmps24
  go_wp2
  go_ret
  exact ⟨_, rfl, hb, by (repeat (first | with_reducible exact Below.refl _ _ | with_reducible assumption | refine Below.alloc ?_ (by (try simp); try omega) _ | refine Below.setCell ?_ (by (try simp); try omega) _ | refine below_drewN ?_ _ | refine Below.drew ?_ | (with_reducible refine Below.trans ?_ (Below.mono (by assumption) (by (try simp); try omega)))))⟩
theorem fails1_any (s : Int) (g : Nat) (w : World) (hb : w.cell? ⟨g, 0, none⟩ = some (.int .i64 s)) : Calls Tryz.prog 58 #[.string (bs []), .int .i64 s, .pointer (some ⟨g, 0, none⟩)] w fun e w' => e = .returned (.bool true) ∧ w = w' := by
  skip
  have t0 : (⟨#[]⟩ : ByteArray).toList = [] := ByteArray.toList_mk []
  have t2 := bs_toList []
  go_enter Tryz.func58, Tryz.ntmps58
  go_wp2
  go_ret
  exact ⟨rfl, rfl⟩
theorem refuses_any (s : Int) (w : World) : Calls Tryz.prog 26 #[.int .i64 s] w fun e w' => ∃ g, e = .returned (.func (.func 60) #[] #[.pointer (some ⟨g, 0, none⟩)]) ∧ w'.cell? ⟨g, 0, none⟩ = some (.int .i64 s) ∧ Below w.heap.size w w' := by
  have hb := (Bn.new w #[.int .i64 s] 23).cell 0 (.int .i64 s) rfl
  go_enter Tryz.func26, Tryz.ntmps26
  go_wp2
  go_ret
  exact ⟨_, rfl, hb, by (repeat (first | with_reducible exact Below.refl _ _ | with_reducible assumption | refine Below.alloc ?_ (by (try simp); try omega) _ | refine Below.setCell ?_ (by (try simp); try omega) _ | refine below_drewN ?_ _ | refine Below.drew ?_ | (with_reducible refine Below.trans ?_ (Below.mono (by assumption) (by (try simp); try omega)))))⟩
theorem refuses1_any (s : Int) (g : Nat) (w : World) (hb : w.cell? ⟨g, 0, none⟩ = some (.int .i64 s)) : Calls Tryz.prog 60 #[.int .i64 0, .int .i64 s, .pointer (some ⟨g, 0, none⟩)] w fun e w' => e = .returned (.bool true) ∧ w = w' := by
  skip
  skip
  skip
  go_enter Tryz.func60, Tryz.ntmps60
  go_wp2
  go_ret
  exact ⟨rfl, rfl⟩
end Go.Proofs.YtpjkdgdgjlldfaaGreatDoor
