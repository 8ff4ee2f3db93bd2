/-
  The reference for layer 2: result, Add, Sub, Neg, Abs, Min, Max, Hull, Meet, Has, Mid, Width, Sign.
-/
import Derived.Test.YtabnpidmhmebfaaGreatDoorSpS
namespace Go.Proofs.YtabnpidmhmebfaaGreatDoor
open Go.RowKit

def resR (l h : Int) (f : Bool) : Int × Int × Int := if f = true then limS l h else (0, 0, 6)

theorem undrewW {A B : World} (h : Below A.drew.heap.size A.drew B) : Below A.heap.size A B := (Below.drew (Below.refl A.heap.size A)).trans h

theorem rResult_any (l h : Int) (f : Bool) (w : World) :
    Calls Tryz.prog 53 #[.int .i64 l, .int .i64 h, .bool f] w fun e w' => e = .returned (.tuple #[.agg #[.int .i64 (resR l h f).1, .int .i64 (resR l h f).2.1], .int .i64 (resR l h f).2.2]) ∧ Below w.heap.size w w' := by
  cases f
  · rw [show resR l h false = (0, 0, 6) by unfold resR; simp]
    go_enter Tryz.func53, Tryz.ntmps53
    go_wp2
    exact bodyPost_ret (v := .tuple #[.agg #[.int .i64 (0), .int .i64 (0)], .int .i64 (6)]) (by simp [results, Tryz.results53, go_sem]) rfl ⟨rfl, by (repeat (first | with_reducible exact Below.refl _ _ | with_reducible assumption | refine Below.alloc ?_ (by (try simp); try omega) _ | refine Below.setCell ?_ (by (try simp); try omega) _ | refine below_drewN ?_ _ | refine Below.drew ?_ | (with_reducible refine Below.trans ?_ (Below.mono (by assumption) (by (try simp); try omega)))))⟩
  · rcases ckS_cases l h with ⟨k, k0⟩ | ⟨k, k0⟩
    · have hr := rRight_ok l h k
      rw [show resR l h true = (l, h, 0) by unfold resR limS; simp [k]]
      clear k k0
      go_enter Tryz.func53, Tryz.ntmps53
      go_wp2_with (go_at_call 41; (with_reducible refine (hr _).mono ?_); rintro e w1 ⟨rfl, hb1⟩; (with_reducible (first | (replace hb1 := undrewW hb1) | skip)); have hz1 : w.heap.size + 1 < w1.heap.size := (by have := hb1.size; (try simp at this); omega); have r01 : w1.cell? ⟨w.heap.size, 0, none⟩ = some (.int .i64 0) := bkeep hb1 (by first | (simp [go_sem]; done)); have r11 : w1.cell? ⟨w.heap.size, 1, none⟩ = some (.int .i64 0) := bkeep hb1 (by first | (simp [go_sem]; done)); have p01 : w1.cell? ⟨w.heap.size + 1, 0, none⟩ = some (.int .i64 l) := bkeep hb1 (by first | (simp [go_sem]; done)); have p11 : w1.cell? ⟨w.heap.size + 1, 1, none⟩ = some (.int .i64 h) := bkeep hb1 (by first | (simp [go_sem]; done)); have z001 : w1.frozen? ⟨w.heap.size, 0, none⟩ = false := bfrz hb1 (by first | omega | (simp; done) | (simp; omega)) (by first | (simp [go_sem]; done)); have z011 : w1.frozen? ⟨w.heap.size, 1, none⟩ = false := bfrz hb1 (by first | omega | (simp; done) | (simp; omega)) (by first | (simp [go_sem]; done)))
      exact bodyPost_ret (v := .tuple #[.agg #[.int .i64 (l), .int .i64 (h)], .int .i64 (0)]) (by simp [results, Tryz.results53, go_sem, r01, r11]) rfl ⟨rfl, by (repeat (first | with_reducible exact Below.refl _ _ | with_reducible assumption | refine Below.alloc ?_ (by (try simp); try omega) _ | refine Below.setCell ?_ (by (try simp); try omega) _ | refine below_drewN ?_ _ | refine Below.drew ?_ | (with_reducible refine Below.trans ?_ (Below.mono (by assumption) (by (try simp); try omega)))))⟩
    · have hr := rRight_no l h k
      rw [show resR l h true = (0, 0, 6) by unfold resR limS; simp [k]]
      clear k k0
      go_enter Tryz.func53, Tryz.ntmps53
      go_wp2_with (go_at_call 41; (with_reducible refine (hr _).mono ?_); rintro e w1 ⟨rfl, hb1⟩; (with_reducible (first | (replace hb1 := undrewW hb1) | skip)); have hz1 : w.heap.size + 1 < w1.heap.size := (by have := hb1.size; (try simp at this); omega); have r01 : w1.cell? ⟨w.heap.size, 0, none⟩ = some (.int .i64 0) := bkeep hb1 (by first | (simp [go_sem]; done)); have r11 : w1.cell? ⟨w.heap.size, 1, none⟩ = some (.int .i64 0) := bkeep hb1 (by first | (simp [go_sem]; done)); have p01 : w1.cell? ⟨w.heap.size + 1, 0, none⟩ = some (.int .i64 l) := bkeep hb1 (by first | (simp [go_sem]; done)); have p11 : w1.cell? ⟨w.heap.size + 1, 1, none⟩ = some (.int .i64 h) := bkeep hb1 (by first | (simp [go_sem]; done)); have z001 : w1.frozen? ⟨w.heap.size, 0, none⟩ = false := bfrz hb1 (by first | omega | (simp; done) | (simp; omega)) (by first | (simp [go_sem]; done)); have z011 : w1.frozen? ⟨w.heap.size, 1, none⟩ = false := bfrz hb1 (by first | omega | (simp; done) | (simp; omega)) (by first | (simp [go_sem]; done)))
      exact bodyPost_ret (v := .tuple #[.agg #[.int .i64 (0), .int .i64 (0)], .int .i64 (6)]) (by simp [results, Tryz.results53, go_sem, r01, r11]) rfl ⟨rfl, by (repeat (first | with_reducible exact Below.refl _ _ | with_reducible assumption | refine Below.alloc ?_ (by (try simp); try omega) _ | refine Below.setCell ?_ (by (try simp); try omega) _ | refine below_drewN ?_ _ | refine Below.drew ?_ | (with_reducible refine Below.trans ?_ (Below.mono (by assumption) (by (try simp); try omega)))))⟩

end Go.Proofs.YtabnpidmhmebfaaGreatDoor
