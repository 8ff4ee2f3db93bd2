/-
  Package span: the results at the ends of two intervals: at, results (an iterator) and its closure, keep.
-/
import Derived.Test.YtdaignklmbmcnaaSpB
import Derived.Test.YtdaignklmbmcnaaFixS
import Derived.RangeFuncNested
import Derived.RangeFuncBound
import Derived.RangeFuncCalls
import Derived.RangeFuncLeaves
import Derived.Shelf.Abstract
import Derived.Shelf.RegionOpen
import Derived.WalkKit
import Derived.OwnWalkIn
import Derived.TacticsInMore
import Derived.LoopNIn
import Derived.LoopIn
namespace Go.Proofs.Ytdaignklmbmcnaa
open Go.RowKit Go.Shelf

attribute [local go_sem] Oper.semAt_some

def atR (x y : Int × Int) : Int × Int × Int := if x.2 = 0 then (x.1, y.1, y.2) else (0, 0, x.2)
theorem below_grown {w w' : World} (h : Below w.heap.size w w') : w.grownBy w' none := ⟨h.os, h.tape, h.output, h.size, fun k hk _ => h.block k hk⟩

set_option maxHeartbeats 1000000 in
theorem atMul_any (x y : Int) (w : World) :
    Calls Try.prog 71 #[.agg #[.func (.func 37) #[] #[], .func (.func 38) #[] #[]], .int .i64 x, .int .i64 y] w fun e w' => e = .returned (.tuple #[.agg #[.int .i64 (atR (mulR false x y) (mulR true x y)).1, .int .i64 (atR (mulR false x y) (mulR true x y)).2.1], .int .i64 (atR (mulR false x y) (mulR true x y)).2.2]) ∧ Below w.heap.size w w' := by
  have hd := fun w => mulDown_any x y w
  have hu := fun w => mulUp_any x y w
  generalize mulR false x y = D at *
  generalize mulR true x y = U at *
  obtain ⟨d1, d2⟩ := D
  obtain ⟨u1, u2⟩ := U
  by_cases h : d2 = 0
  · subst h
    rw [show atR (d1, 0) (u1, u2) = (d1, u1, u2) by unfold atR; rw [if_pos rfl]]
    go_enter Try.func71, Try.ntmps71
    go_wp2_with (first | (go_at_call 37; refine (hd _).mono ?_; rintro e w1 ⟨rfl, hb1⟩; obtain ⟨hc1, hf1⟩ := bcell hb1; have hz1 : w.heap.size + 1 < w1.heap.size := (by have := hb1.size; (try simp at this); omega); have hy1 : w.heap.size + 1 < w1.heap.size := (by omega); have r01 : w1.cell? ⟨w.heap.size + 1, 0, none⟩ = some (.int .i64 0) := bkeep hb1 (by first | (simp [go_sem]; done)); have r11 : w1.cell? ⟨w.heap.size + 1, 1, none⟩ = some (.int .i64 0) := bkeep hb1 (by first | (simp [go_sem]; done)); have z01 : w1.frozen? ⟨w.heap.size + 1, 0, none⟩ = false := bfrz hb1 (by first | omega | (simp; done) | (simp; omega)) (by first | (simp [go_sem]; done)); have z11 : w1.frozen? ⟨w.heap.size + 1, 1, none⟩ = false := bfrz hb1 (by first | omega | (simp; done) | (simp; omega)) (by first | (simp [go_sem]; done))) | (go_at_call 38; refine (hu _).mono ?_; rintro e w2 ⟨rfl, hb2⟩; obtain ⟨hc2, hf2⟩ := bcell hb2; have hz2 : w.heap.size + 1 < w2.heap.size := (by have := hb2.size; (try simp at this); omega); have hy2 : w.heap.size + 1 < w2.heap.size := (by omega); have r02 : w2.cell? ⟨w.heap.size + 1, 0, none⟩ = some (.int .i64 0) := bkeep hb2 (by first | (simp [go_sem]; done) | (simp [go_sem, r01]; done)); have r12 : w2.cell? ⟨w.heap.size + 1, 1, none⟩ = some (.int .i64 0) := bkeep hb2 (by first | (simp [go_sem]; done) | (simp [go_sem, r11]; done)); have z02 : w2.frozen? ⟨w.heap.size + 1, 0, none⟩ = false := bfrz hb2 (by first | omega | (simp; done) | (simp; omega)) (by first | (simp [go_sem]; done) | (simp [go_sem, z01]; done)); have z12 : w2.frozen? ⟨w.heap.size + 1, 1, none⟩ = false := bfrz hb2 (by first | omega | (simp; done) | (simp; omega)) (by first | (simp [go_sem]; done) | (simp [go_sem, z11]; done))))
    exact bodyPost_ret (v := .tuple #[.agg #[.int .i64 d1, .int .i64 u1], .int .i64 u2]) (by simp [results, Try.results71, go_sem, r02, r12]) rfl ⟨rfl, by (repeat (first | with_reducible exact Below.refl _ _ | with_reducible assumption | refine Below.alloc ?_ (by (try simp); try omega) _ | refine Below.setCell ?_ (by (try simp); try omega) _ | refine below_drewN ?_ _ | refine Below.drew ?_ | (with_reducible refine Below.trans ?_ (Below.mono (by assumption) (by (try simp); try omega)))))⟩
  · rw [show atR (d1, d2) (u1, u2) = (0, 0, d2) by unfold atR; rw [if_neg h]]
    have h' : (d2 != 0) = true := by simpa using h
    go_enter Try.func71, Try.ntmps71
    go_wp2_with (first | (go_at_call 37; refine (hd _).mono ?_; rintro e w1 ⟨rfl, hb1⟩; obtain ⟨hc1, hf1⟩ := bcell hb1; have hz1 : w.heap.size + 1 < w1.heap.size := (by have := hb1.size; (try simp at this); omega); have hy1 : w.heap.size + 1 < w1.heap.size := (by omega); have r01 : w1.cell? ⟨w.heap.size + 1, 0, none⟩ = some (.int .i64 0) := bkeep hb1 (by first | (simp [go_sem]; done)); have r11 : w1.cell? ⟨w.heap.size + 1, 1, none⟩ = some (.int .i64 0) := bkeep hb1 (by first | (simp [go_sem]; done)); have z01 : w1.frozen? ⟨w.heap.size + 1, 0, none⟩ = false := bfrz hb1 (by first | omega | (simp; done) | (simp; omega)) (by first | (simp [go_sem]; done)); have z11 : w1.frozen? ⟨w.heap.size + 1, 1, none⟩ = false := bfrz hb1 (by first | omega | (simp; done) | (simp; omega)) (by first | (simp [go_sem]; done))) | (go_at_call 38; refine (hu _).mono ?_; rintro e w2 ⟨rfl, hb2⟩; obtain ⟨hc2, hf2⟩ := bcell hb2; have hz2 : w.heap.size + 1 < w2.heap.size := (by have := hb2.size; (try simp at this); omega); have hy2 : w.heap.size + 1 < w2.heap.size := (by omega); have r02 : w2.cell? ⟨w.heap.size + 1, 0, none⟩ = some (.int .i64 0) := bkeep hb2 (by first | (simp [go_sem]; done) | (simp [go_sem, r01, r11]; done)); have r12 : w2.cell? ⟨w.heap.size + 1, 1, none⟩ = some (.int .i64 0) := bkeep hb2 (by first | (simp [go_sem]; done) | (simp [go_sem, r01, r11]; done)); have z02 : w2.frozen? ⟨w.heap.size + 1, 0, none⟩ = false := bfrz hb2 (by first | omega | (simp; done) | (simp; omega)) (by first | (simp [go_sem]; done) | (simp [go_sem, z01]; done)); have z12 : w2.frozen? ⟨w.heap.size + 1, 1, none⟩ = false := bfrz hb2 (by first | omega | (simp; done) | (simp; omega)) (by first | (simp [go_sem]; done) | (simp [go_sem, z11]; done))))
    exact bodyPost_ret (v := .tuple #[.agg #[.int .i64 0, .int .i64 0], .int .i64 d2]) (by simp [results, Try.results71, go_sem, r01, r11]) rfl ⟨rfl, by (repeat (first | with_reducible exact Below.refl _ _ | with_reducible assumption | refine Below.alloc ?_ (by (try simp); try omega) _ | refine Below.setCell ?_ (by (try simp); try omega) _ | refine below_drewN ?_ _ | refine Below.drew ?_ | (with_reducible refine Below.trans ?_ (Below.mono (by assumption) (by (try simp); try omega)))))⟩

end Go.Proofs.Ytdaignklmbmcnaa
