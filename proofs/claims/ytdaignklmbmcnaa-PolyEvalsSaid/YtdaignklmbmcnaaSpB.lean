/-
  Package span: walks of limited, holds, magnitudes, Point, Add, Sub, Neg, Abs, Min, Max, Hull, Meet, Has, Mid, Width, Sign.
-/
import Derived.Test.YtdaignklmbmcnaaSpA
namespace Go.Proofs.Ytdaignklmbmcnaa
open Go.RowKit

theorem sLimited_any (l h : Int) (w : World) :
    Calls Try.prog 36 #[.int .i64 l, .int .i64 h] w fun e w' => e = .returned (.tuple #[.agg #[.int .i64 (limS l h).1, .int .i64 (limS l h).2.1], .int .i64 (limS l h).2.2]) ∧ Below w.heap.size w w' := by
  have hc := fun w => sOf_any l h w
  rcases ckS_cases l h with ⟨k, h0, h1, h2⟩ | ⟨k, h0⟩
  · rw [show limS l h = (l, h, 0) by unfold limS; rw [if_pos k]]
    rw [show ofR l h = (l, h, 0) by unfold ofR; rw [if_pos k]] at hc
    clear k
    go_enter Try.func36, Try.ntmps36
    go_wp2_with (go_at_call 54; refine (hc _).mono ?_; rintro e w1 ⟨rfl, hb1⟩; obtain ⟨hc1, hf1⟩ := bcell hb1; have hz1 : w.heap.size < w1.heap.size := (by have := hb1.size; (try simp at this); omega); have r01 : w1.cell? ⟨w.heap.size, 0, none⟩ = some (.int .i64 0) := bkeep hb1 (by first | (simp [go_sem]; done)); have r11 : w1.cell? ⟨w.heap.size, 1, none⟩ = some (.int .i64 0) := bkeep hb1 (by first | (simp [go_sem]; done)); have z01 : w1.frozen? ⟨w.heap.size, 0, none⟩ = false := bfrz hb1 (by first | omega | (simp; done) | (simp; omega)) (by first | (simp [go_sem]; done)); have z11 : w1.frozen? ⟨w.heap.size, 1, none⟩ = false := bfrz hb1 (by first | omega | (simp; done) | (simp; omega)) (by first | (simp [go_sem]; done)))
    exact bodyPost_ret (v := .tuple #[.agg #[.int .i64 (l), .int .i64 (h)], .int .i64 0]) (by simp [results, Try.results36, go_sem, r01, r11, hz1]) rfl ⟨rfl, by (repeat (first | with_reducible exact Below.refl _ _ | with_reducible assumption | refine Below.alloc ?_ (by (try simp); try omega) _ | refine Below.setCell ?_ (by (try simp); try omega) _ | refine below_drewN ?_ _ | refine Below.drew ?_ | (with_reducible refine Below.trans ?_ (Below.mono (by assumption) (by (try simp); try omega)))))⟩
  · rw [show limS l h = (0, 0, 6) by unfold limS; rw [if_neg (by omega)]]
    rw [show ofR l h = (0, 0, 20) by unfold ofR; rw [if_neg (by omega)]] at hc
    clear k h0
    go_enter Try.func36, Try.ntmps36
    go_wp2_with (go_at_call 54; refine (hc _).mono ?_; rintro e w1 ⟨rfl, hb1⟩; obtain ⟨hc1, hf1⟩ := bcell hb1; have hz1 : w.heap.size < w1.heap.size := (by have := hb1.size; (try simp at this); omega); have r01 : w1.cell? ⟨w.heap.size, 0, none⟩ = some (.int .i64 0) := bkeep hb1 (by first | (simp [go_sem]; done)); have r11 : w1.cell? ⟨w.heap.size, 1, none⟩ = some (.int .i64 0) := bkeep hb1 (by first | (simp [go_sem]; done)); have z01 : w1.frozen? ⟨w.heap.size, 0, none⟩ = false := bfrz hb1 (by first | omega | (simp; done) | (simp; omega)) (by first | (simp [go_sem]; done)); have z11 : w1.frozen? ⟨w.heap.size, 1, none⟩ = false := bfrz hb1 (by first | omega | (simp; done) | (simp; omega)) (by first | (simp [go_sem]; done)))
    exact bodyPost_ret (v := .tuple #[.agg #[.int .i64 (0), .int .i64 (0)], .int .i64 6]) (by simp [results, Try.results36, go_sem, r01, r11, hz1]) rfl ⟨rfl, by (repeat (first | with_reducible exact Below.refl _ _ | with_reducible assumption | refine Below.alloc ?_ (by (try simp); try omega) _ | refine Below.setCell ?_ (by (try simp); try omega) _ | refine below_drewN ?_ _ | refine Below.drew ?_ | (with_reducible refine Below.trans ?_ (Below.mono (by assumption) (by (try simp); try omega)))))⟩

def holdsB (a b v : Int) : Bool := decide (a ≤ v) && decide (v ≤ b)
/-- The interval of the absolute value. -/
def magR (a b : Int) : Int × Int := if 0 ≤ a then (a, b) else if b ≤ 0 then (-b, -a) else (0, max (-a) b)
def sNegR (a b : Int) : Int × Int × Int := if ckS a b = 0 then (-b, -a, 0) else (0, 0, 20)
def sAbsR (a b : Int) : Int × Int × Int := if ckS a b = 0 then ((magR a b).1, (magR a b).2, 0) else (0, 0, 20)
def sHasR (a b v : Int) : Bool × Int := if ckS a b = 0 then (holdsB a b v, 0) else (false, 20)
def sMidR (a b : Int) : Int × Int := if ckS a b = 0 then ((a + b) / 2, 0) else (0, 20)
def sWidthR (a b : Int) : Int × Int := if ckS a b = 0 then (b - a, 0) else (0, 20)
def sAddR (a b c d : Int) : Int × Int × Int := if ck2S a b c d = 0 then limS (a + c) (b + d) else (0, 0, 20)
theorem sAdd_any (a b c d : Int) (w : World) :
    Calls Try.prog 45 #[.agg #[.int .i64 a, .int .i64 b], .agg #[.int .i64 c, .int .i64 d]] w fun e w' => e = .returned (.tuple #[.agg #[.int .i64 (sAddR a b c d).1, .int .i64 (sAddR a b c d).2.1], .int .i64 (sAddR a b c d).2.2]) ∧ Below w.heap.size w w' := by
  have hc := fun q w hq e0 e1 e2 e3 => checkAll_any a b c d q w hq e0 e1 e2 e3
  rcases ck2S_cases a b c d with ⟨k, h0, h1, h2, h3, h4, h5⟩ | ⟨k, h0⟩
  · rw [show sAddR a b c d = limS (a + c) (b + d) by unfold sAddR; rw [if_pos k]]
    rw [k] at hc
    clear k
    have hm := fun w => sLimited_any (a + c) (b + d) w
    generalize limS (a + c) (b + d) = m at *
    go_enter Try.func45, Try.ntmps45
    go_wp2_with (first | (go_at_call 35; refine (hc _ _ (by simp) (by simp [go_sem]) (by simp [go_sem]) (by simp [go_sem]) (by simp [go_sem])).mono ?_; rintro e w1 ⟨rfl, hb1⟩; obtain ⟨hc1, hf1⟩ := bcell hb1; have hz1 : w.heap.size + 3 < w1.heap.size := (by have := hb1.size; (try simp at this); omega); have hy1 : w.heap.size + 1 + 1 < w1.heap.size := (by omega); have r01 : w1.cell? ⟨w.heap.size + 2, 0, none⟩ = some (.int .i64 0) := bkeep hb1 (by first | (simp [go_sem]; done)); have r11 : w1.cell? ⟨w.heap.size + 2, 1, none⟩ = some (.int .i64 0) := bkeep hb1 (by first | (simp [go_sem]; done)); have z01 : w1.frozen? ⟨w.heap.size + 2, 0, none⟩ = false := bfrz hb1 (by first | omega | (simp; done) | (simp; omega)) (by first | (simp [go_sem]; done)); have z11 : w1.frozen? ⟨w.heap.size + 2, 1, none⟩ = false := bfrz hb1 (by first | omega | (simp; done) | (simp; omega)) (by first | (simp [go_sem]; done))) | (go_at_call 36; refine (hm _).mono ?_; rintro e w2 ⟨rfl, hb2⟩; obtain ⟨hc2, hf2⟩ := bcell hb2; have hz2 : w.heap.size + 3 < w2.heap.size := (by have := hb2.size; (try simp at this); omega); have hy2 : w.heap.size + 1 + 1 < w2.heap.size := (by omega); have r02 : w2.cell? ⟨w.heap.size + 2, 0, none⟩ = some (.int .i64 0) := bkeep hb2 (by first | (simp [go_sem]; done) | (simp [go_sem, r01]; done)); have r12 : w2.cell? ⟨w.heap.size + 2, 1, none⟩ = some (.int .i64 0) := bkeep hb2 (by first | (simp [go_sem]; done) | (simp [go_sem, r11]; done)); have z02 : w2.frozen? ⟨w.heap.size + 2, 0, none⟩ = false := bfrz hb2 (by first | omega | (simp; done) | (simp; omega)) (by first | (simp [go_sem]; done) | (simp [go_sem, z01]; done)); have z12 : w2.frozen? ⟨w.heap.size + 2, 1, none⟩ = false := bfrz hb2 (by first | omega | (simp; done) | (simp; omega)) (by first | (simp [go_sem]; done) | (simp [go_sem, z11]; done))))
    exact bodyPost_ret (v := .tuple #[.agg #[.int .i64 (m).1, .int .i64 (m).2.1], .int .i64 (m).2.2]) (by simp [results, Try.results45, go_sem, r02, r12]) rfl ⟨rfl, by (repeat (first | with_reducible exact Below.refl _ _ | with_reducible assumption | refine Below.alloc ?_ (by (try simp); try omega) _ | refine Below.setCell ?_ (by (try simp); try omega) _ | refine below_drewN ?_ _ | refine Below.drew ?_ | (with_reducible refine Below.trans ?_ (Below.mono (by assumption) (by (try simp); try omega)))))⟩
  · rw [show sAddR a b c d = (0, 0, 20) by unfold sAddR; rw [if_neg (by omega)]]
    rw [k] at hc
    clear k h0
    go_enter Try.func45, Try.ntmps45
    go_wp2_with (first | (go_at_call 35; refine (hc _ _ (by simp) (by simp [go_sem]) (by simp [go_sem]) (by simp [go_sem]) (by simp [go_sem])).mono ?_; rintro e w1 ⟨rfl, hb1⟩; obtain ⟨hc1, hf1⟩ := bcell hb1; have hz1 : w.heap.size + 3 < w1.heap.size := (by have := hb1.size; (try simp at this); omega); have hy1 : w.heap.size + 1 + 1 < w1.heap.size := (by omega); have r01 : w1.cell? ⟨w.heap.size + 2, 0, none⟩ = some (.int .i64 0) := bkeep hb1 (by first | (simp [go_sem]; done)); have r11 : w1.cell? ⟨w.heap.size + 2, 1, none⟩ = some (.int .i64 0) := bkeep hb1 (by first | (simp [go_sem]; done)); have z01 : w1.frozen? ⟨w.heap.size + 2, 0, none⟩ = false := bfrz hb1 (by first | omega | (simp; done) | (simp; omega)) (by first | (simp [go_sem]; done)); have z11 : w1.frozen? ⟨w.heap.size + 2, 1, none⟩ = false := bfrz hb1 (by first | omega | (simp; done) | (simp; omega)) (by first | (simp [go_sem]; done))))
    exact bodyPost_ret (v := .tuple #[.agg #[.int .i64 0, .int .i64 0], .int .i64 20]) (by simp [results, Try.results45, go_sem, r01, r11]) rfl ⟨rfl, by (repeat (first | with_reducible exact Below.refl _ _ | with_reducible assumption | refine Below.alloc ?_ (by (try simp); try omega) _ | refine Below.setCell ?_ (by (try simp); try omega) _ | refine below_drewN ?_ _ | refine Below.drew ?_ | (with_reducible refine Below.trans ?_ (Below.mono (by assumption) (by (try simp); try omega)))))⟩

def sSubR (a b c d : Int) : Int × Int × Int := if ck2S a b c d = 0 then limS (a - d) (b - c) else (0, 0, 20)
theorem sSub_any (a b c d : Int) (w : World) :
    Calls Try.prog 20 #[.agg #[.int .i64 a, .int .i64 b], .agg #[.int .i64 c, .int .i64 d]] w fun e w' => e = .returned (.tuple #[.agg #[.int .i64 (sSubR a b c d).1, .int .i64 (sSubR a b c d).2.1], .int .i64 (sSubR a b c d).2.2]) ∧ Below w.heap.size w w' := by
  have hc := fun q w hq e0 e1 e2 e3 => checkAll_any a b c d q w hq e0 e1 e2 e3
  rcases ck2S_cases a b c d with ⟨k, h0, h1, h2, h3, h4, h5⟩ | ⟨k, h0⟩
  · rw [show sSubR a b c d = limS (a - d) (b - c) by unfold sSubR; rw [if_pos k]]
    rw [k] at hc
    clear k
    have hm := fun w => sLimited_any (a - d) (b - c) w
    generalize limS (a - d) (b - c) = m at *
    go_enter Try.func20, Try.ntmps20
    go_wp2_with (first | (go_at_call 35; refine (hc _ _ (by simp) (by simp [go_sem]) (by simp [go_sem]) (by simp [go_sem]) (by simp [go_sem])).mono ?_; rintro e w1 ⟨rfl, hb1⟩; obtain ⟨hc1, hf1⟩ := bcell hb1; have hz1 : w.heap.size + 3 < w1.heap.size := (by have := hb1.size; (try simp at this); omega); have hy1 : w.heap.size + 1 + 1 < w1.heap.size := (by omega); have r01 : w1.cell? ⟨w.heap.size + 2, 0, none⟩ = some (.int .i64 0) := bkeep hb1 (by first | (simp [go_sem]; done)); have r11 : w1.cell? ⟨w.heap.size + 2, 1, none⟩ = some (.int .i64 0) := bkeep hb1 (by first | (simp [go_sem]; done)); have z01 : w1.frozen? ⟨w.heap.size + 2, 0, none⟩ = false := bfrz hb1 (by first | omega | (simp; done) | (simp; omega)) (by first | (simp [go_sem]; done)); have z11 : w1.frozen? ⟨w.heap.size + 2, 1, none⟩ = false := bfrz hb1 (by first | omega | (simp; done) | (simp; omega)) (by first | (simp [go_sem]; done))) | (go_at_call 36; refine (hm _).mono ?_; rintro e w2 ⟨rfl, hb2⟩; obtain ⟨hc2, hf2⟩ := bcell hb2; have hz2 : w.heap.size + 3 < w2.heap.size := (by have := hb2.size; (try simp at this); omega); have hy2 : w.heap.size + 1 + 1 < w2.heap.size := (by omega); have r02 : w2.cell? ⟨w.heap.size + 2, 0, none⟩ = some (.int .i64 0) := bkeep hb2 (by first | (simp [go_sem]; done) | (simp [go_sem, r01]; done)); have r12 : w2.cell? ⟨w.heap.size + 2, 1, none⟩ = some (.int .i64 0) := bkeep hb2 (by first | (simp [go_sem]; done) | (simp [go_sem, r11]; done)); have z02 : w2.frozen? ⟨w.heap.size + 2, 0, none⟩ = false := bfrz hb2 (by first | omega | (simp; done) | (simp; omega)) (by first | (simp [go_sem]; done) | (simp [go_sem, z01]; done)); have z12 : w2.frozen? ⟨w.heap.size + 2, 1, none⟩ = false := bfrz hb2 (by first | omega | (simp; done) | (simp; omega)) (by first | (simp [go_sem]; done) | (simp [go_sem, z11]; done))))
    exact bodyPost_ret (v := .tuple #[.agg #[.int .i64 (m).1, .int .i64 (m).2.1], .int .i64 (m).2.2]) (by simp [results, Try.results20, go_sem, r02, r12]) rfl ⟨rfl, by (repeat (first | with_reducible exact Below.refl _ _ | with_reducible assumption | refine Below.alloc ?_ (by (try simp); try omega) _ | refine Below.setCell ?_ (by (try simp); try omega) _ | refine below_drewN ?_ _ | refine Below.drew ?_ | (with_reducible refine Below.trans ?_ (Below.mono (by assumption) (by (try simp); try omega)))))⟩
  · rw [show sSubR a b c d = (0, 0, 20) by unfold sSubR; rw [if_neg (by omega)]]
    rw [k] at hc
    clear k h0
    go_enter Try.func20, Try.ntmps20
    go_wp2_with (first | (go_at_call 35; refine (hc _ _ (by simp) (by simp [go_sem]) (by simp [go_sem]) (by simp [go_sem]) (by simp [go_sem])).mono ?_; rintro e w1 ⟨rfl, hb1⟩; obtain ⟨hc1, hf1⟩ := bcell hb1; have hz1 : w.heap.size + 3 < w1.heap.size := (by have := hb1.size; (try simp at this); omega); have hy1 : w.heap.size + 1 + 1 < w1.heap.size := (by omega); have r01 : w1.cell? ⟨w.heap.size + 2, 0, none⟩ = some (.int .i64 0) := bkeep hb1 (by first | (simp [go_sem]; done)); have r11 : w1.cell? ⟨w.heap.size + 2, 1, none⟩ = some (.int .i64 0) := bkeep hb1 (by first | (simp [go_sem]; done)); have z01 : w1.frozen? ⟨w.heap.size + 2, 0, none⟩ = false := bfrz hb1 (by first | omega | (simp; done) | (simp; omega)) (by first | (simp [go_sem]; done)); have z11 : w1.frozen? ⟨w.heap.size + 2, 1, none⟩ = false := bfrz hb1 (by first | omega | (simp; done) | (simp; omega)) (by first | (simp [go_sem]; done))))
    exact bodyPost_ret (v := .tuple #[.agg #[.int .i64 0, .int .i64 0], .int .i64 20]) (by simp [results, Try.results20, go_sem, r01, r11]) rfl ⟨rfl, by (repeat (first | with_reducible exact Below.refl _ _ | with_reducible assumption | refine Below.alloc ?_ (by (try simp); try omega) _ | refine Below.setCell ?_ (by (try simp); try omega) _ | refine below_drewN ?_ _ | refine Below.drew ?_ | (with_reducible refine Below.trans ?_ (Below.mono (by assumption) (by (try simp); try omega)))))⟩

def sMinR (a b c d : Int) : Int × Int × Int := if ck2S a b c d = 0 then (min a c, min b d, 0) else (0, 0, 20)
def sMaxR (a b c d : Int) : Int × Int × Int := if ck2S a b c d = 0 then (max a c, max b d, 0) else (0, 0, 20)
def sHullR (a b c d : Int) : Int × Int × Int := if ck2S a b c d = 0 then (min a c, max b d, 0) else (0, 0, 20)
def sMeetR (a b c d : Int) : Int × Int × Int := if ck2S a b c d = 0 then (if min b d < max a c then (0, 0, 4) else (max a c, min b d, 0)) else (0, 0, 20)
theorem sMeet_any (a b c d : Int) (w : World) :
    Calls Try.prog 22 #[.agg #[.int .i64 a, .int .i64 b], .agg #[.int .i64 c, .int .i64 d]] w fun e w' => e = .returned (.tuple #[.agg #[.int .i64 (sMeetR a b c d).1, .int .i64 (sMeetR a b c d).2.1], .int .i64 (sMeetR a b c d).2.2]) ∧ Below w.heap.size w w' := by
  have hc := fun q w hq e0 e1 e2 e3 => checkAll_any a b c d q w hq e0 e1 e2 e3
  rcases ck2S_cases a b c d with ⟨k, h0, h1, h2, h3, h4, h5⟩ | ⟨k, h0⟩
  · rw [show sMeetR a b c d = (if min b d < max a c then (0, 0, 4) else (max a c, min b d, 0)) by unfold sMeetR; rw [if_pos k]]
    rw [k] at hc
    clear k
    obtain ⟨l, hl⟩ : ∃ l, max a c = l := ⟨_, rfl⟩
    obtain ⟨u, hu⟩ : ∃ u, min b d = u := ⟨_, rfl⟩
    rw [hl, hu]
    by_cases g : u < l
    · rw [if_pos g]
      go_enter Try.func22, Try.ntmps22
      go_wp2_with (first | (go_at_call 35; refine (hc _ _ (by simp) (by simp [go_sem]) (by simp [go_sem]) (by simp [go_sem]) (by simp [go_sem])).mono ?_; rintro e w1 ⟨rfl, hb1⟩; obtain ⟨hc1, hf1⟩ := bcell hb1; have hz1 : w.heap.size + 3 < w1.heap.size := (by have := hb1.size; (try simp at this); omega); have hy1 : w.heap.size + 1 + 1 < w1.heap.size := (by omega); have r01 : w1.cell? ⟨w.heap.size + 2, 0, none⟩ = some (.int .i64 0) := bkeep hb1 (by first | (simp [go_sem]; done)); have r11 : w1.cell? ⟨w.heap.size + 2, 1, none⟩ = some (.int .i64 0) := bkeep hb1 (by first | (simp [go_sem]; done)); have z01 : w1.frozen? ⟨w.heap.size + 2, 0, none⟩ = false := bfrz hb1 (by first | omega | (simp; done) | (simp; omega)) (by first | (simp [go_sem]; done)); have z11 : w1.frozen? ⟨w.heap.size + 2, 1, none⟩ = false := bfrz hb1 (by first | omega | (simp; done) | (simp; omega)) (by first | (simp [go_sem]; done))))
      exact bodyPost_ret (v := .tuple #[.agg #[.int .i64 0, .int .i64 0], .int .i64 4]) (by simp [results, Try.results22, go_sem, r01, r11, hy1]) rfl ⟨rfl, by (repeat (first | with_reducible exact Below.refl _ _ | with_reducible assumption | refine Below.alloc ?_ (by (try simp); try omega) _ | refine Below.setCell ?_ (by (try simp); try omega) _ | refine below_drewN ?_ _ | refine Below.drew ?_ | (with_reducible refine Below.trans ?_ (Below.mono (by assumption) (by (try simp); try omega)))))⟩
    rw [if_neg g]
    go_enter Try.func22, Try.ntmps22
    go_wp2_with (first | (go_at_call 35; refine (hc _ _ (by simp) (by simp [go_sem]) (by simp [go_sem]) (by simp [go_sem]) (by simp [go_sem])).mono ?_; rintro e w1 ⟨rfl, hb1⟩; obtain ⟨hc1, hf1⟩ := bcell hb1; have hz1 : w.heap.size + 3 < w1.heap.size := (by have := hb1.size; (try simp at this); omega); have hy1 : w.heap.size + 1 + 1 < w1.heap.size := (by omega); have r01 : w1.cell? ⟨w.heap.size + 2, 0, none⟩ = some (.int .i64 0) := bkeep hb1 (by first | (simp [go_sem]; done)); have r11 : w1.cell? ⟨w.heap.size + 2, 1, none⟩ = some (.int .i64 0) := bkeep hb1 (by first | (simp [go_sem]; done)); have z01 : w1.frozen? ⟨w.heap.size + 2, 0, none⟩ = false := bfrz hb1 (by first | omega | (simp; done) | (simp; omega)) (by first | (simp [go_sem]; done)); have z11 : w1.frozen? ⟨w.heap.size + 2, 1, none⟩ = false := bfrz hb1 (by first | omega | (simp; done) | (simp; omega)) (by first | (simp [go_sem]; done))))
    exact bodyPost_ret (v := .tuple #[.agg #[.int .i64 (l), .int .i64 (u)], .int .i64 0]) (by simp [results, Try.results22, go_sem, r01, r11, hy1]) rfl ⟨rfl, by (repeat (first | with_reducible exact Below.refl _ _ | with_reducible assumption | refine Below.alloc ?_ (by (try simp); try omega) _ | refine Below.setCell ?_ (by (try simp); try omega) _ | refine below_drewN ?_ _ | refine Below.drew ?_ | (with_reducible refine Below.trans ?_ (Below.mono (by assumption) (by (try simp); try omega)))))⟩
  · rw [show sMeetR a b c d = (0, 0, 20) by unfold sMeetR; rw [if_neg (by omega)]]
    rw [k] at hc
    clear k h0
    go_enter Try.func22, Try.ntmps22
    go_wp2_with (first | (go_at_call 35; refine (hc _ _ (by simp) (by simp [go_sem]) (by simp [go_sem]) (by simp [go_sem]) (by simp [go_sem])).mono ?_; rintro e w1 ⟨rfl, hb1⟩; obtain ⟨hc1, hf1⟩ := bcell hb1; have hz1 : w.heap.size + 3 < w1.heap.size := (by have := hb1.size; (try simp at this); omega); have hy1 : w.heap.size + 1 + 1 < w1.heap.size := (by omega); have r01 : w1.cell? ⟨w.heap.size + 2, 0, none⟩ = some (.int .i64 0) := bkeep hb1 (by first | (simp [go_sem]; done)); have r11 : w1.cell? ⟨w.heap.size + 2, 1, none⟩ = some (.int .i64 0) := bkeep hb1 (by first | (simp [go_sem]; done)); have z01 : w1.frozen? ⟨w.heap.size + 2, 0, none⟩ = false := bfrz hb1 (by first | omega | (simp; done) | (simp; omega)) (by first | (simp [go_sem]; done)); have z11 : w1.frozen? ⟨w.heap.size + 2, 1, none⟩ = false := bfrz hb1 (by first | omega | (simp; done) | (simp; omega)) (by first | (simp [go_sem]; done))))
    exact bodyPost_ret (v := .tuple #[.agg #[.int .i64 0, .int .i64 0], .int .i64 20]) (by simp [results, Try.results22, go_sem, r01, r11]) rfl ⟨rfl, by (repeat (first | with_reducible exact Below.refl _ _ | with_reducible assumption | refine Below.alloc ?_ (by (try simp); try omega) _ | refine Below.setCell ?_ (by (try simp); try omega) _ | refine below_drewN ?_ _ | refine Below.drew ?_ | (with_reducible refine Below.trans ?_ (Below.mono (by assumption) (by (try simp); try omega)))))⟩

def sSignR (a b : Int) : Int × Int := if ckS a b = 0 then (if b < 0 then (-1, 0) else if 0 < a then (1, 0) else if a = b then (0, 0) else (2, 0)) else (0, 20)
end Go.Proofs.Ytdaignklmbmcnaa
