/-
  The statements' package: pairs of intervals.
-/
import Derived.Test.YtabnpidmhmebfaaDoorSpU
import Derived.Deep.RegionWith
import Derived.Deep.CutRange
namespace Go.Proofs.YtabnpidmhmebfaaDoor
open Go.RowKit

theorem cellAlloc {w : World} {o : Obj} {p : Addr} {v : Value} (h : w.cell? p = some v) : (w.alloc o).cell? p = some v := bkeep ((Below.refl w.heap.size w).alloc (Nat.le_refl _) o) h

theorem cellDrew {w : World} {p : Addr} {v : Value} (h : w.cell? p = some v) : w.drew.cell? p = some v := h
theorem szA (w : World) (o : Obj) : (w.alloc o).heap.size = w.heap.size + 1 := by simp
theorem undrew {A B : World} (h : Below A.drew.heap.size A.drew B) : Below A.heap.size A B := (Below.drew (Below.refl A.heap.size A)).trans h
theorem sinceD {w a : World} (h : Since w a) : Since w a.drew := Below.drew h.out

/-- Two cells of a block that may be written. -/
def Own (w : World) (b : Nat) (x y : Value) : Prop := w.cell? ⟨b, 0, none⟩ = some x ∧ w.cell? ⟨b, 1, none⟩ = some y ∧ w.frozen? ⟨b, 0, none⟩ = false ∧ w.frozen? ⟨b, 1, none⟩ = false ∧ b < w.heap.size
theorem ownKeep {w w' : World} {b : Nat} {x y : Value} (hb : Below w.heap.size w w') (h : Own w b x y) : Own w' b x y :=
  ⟨bkeep hb h.1, bkeep hb h.2.1, bfrz hb h.2.2.2.2 h.2.2.1, bfrz hb h.2.2.2.2 h.2.2.2.1, Nat.lt_of_lt_of_le h.2.2.2.2 hb.size⟩
theorem ownAlloc {w : World} {o : Obj} {b : Nat} {x y : Value} (h : Own w b x y) : Own (w.alloc o) b x y := ownKeep ((Below.refl w.heap.size w).alloc (Nat.le_refl _) o) h
theorem ownHere (w : World) (x y : Value) (t : TypeId) : Own (w.alloc (.cells #[x, y] t)) w.heap.size x y := ⟨by simp, by simp, by simp, by simp, by simp⟩
theorem ownNew {w w' : World} {x y : Value} {t : TypeId} (hb : Below (w.alloc (.cells #[x, y] t)).heap.size (w.alloc (.cells #[x, y] t)) w') : Own w' w.heap.size x y := ownKeep hb (ownHere w x y t)
theorem ownNew2 {w w' : World} {x y : Value} {t : TypeId} {o : Obj} (hb : Below ((w.alloc (.cells #[x, y] t)).alloc o).heap.size ((w.alloc (.cells #[x, y] t)).alloc o) w') : Own w' w.heap.size x y := ownKeep hb (ownAlloc (ownHere w x y t))
theorem sinceA2 {w a b : World} {o o' : Obj} (h : Since w a) (k : Below ((a.alloc o).alloc o').heap.size ((a.alloc o).alloc o') b) : Since w b :=
  Since.step (w := w) (a := (a.alloc o).alloc o') ((h.out.alloc h.out.size o).alloc (by have := h.out.size; simp; omega) o') k

/-- The ends of drafted intervals. -/
def drLo (a b m : Int) : Int := a.tmod ((2 : Int) ^ (b % m).toNat + 1)
def drHi (a b c : Int) : Int := min (drLo a b 52 + c) 4503599627370496
def drTo (a b c : Int) : Int := drLo a b 37 + c / (2 : Int) ^ (b % 32).toNat
set_option maxHeartbeats 1000000 in
theorem drSpan_fn (a b c : Int) (b0 : 0 ≤ b) (b1 : b ≤ 255) (c0 : 0 ≤ c) (c1 : c ≤ 4294967295) :
    ckS (drLo a b 52) (drHi a b c) = 0 ∧ ∀ w, Calls Tryd.prog 26 #[.agg #[.int .i64 a, .int .u8 b, .int .u32 c]] w fun r w' => r = .returned (.agg #[.int .i64 (drLo a b 52), .int .i64 (drHi a b c)]) ∧ Below w.heap.size w w' := by
  obtain ⟨p0, p1⟩ := pow2_bd (b % 52).toNat 52 (by omega) (by omega)
  obtain ⟨T, hT⟩ : ∃ T : Int, (2 : Int) ^ (b % 52).toNat = T := ⟨_, rfl⟩
  rw [hT] at p0 p1
  have p1' : T ≤ 2251799813685248 := p1
  have hw : wrap64 T = T := IntWalk.wrap64_in _ (by omega)
  have hw1 : wrap64 (T + 1) = T + 1 := IntWalk.wrap64_in _ (by omega)
  obtain ⟨t0, t1⟩ := tmod_bd a (T + 1) (by omega)
  obtain ⟨lo, hlo⟩ : ∃ lo, a.tmod (T + 1) = lo := ⟨_, rfl⟩
  rw [hlo] at t0 t1
  obtain ⟨hi, hhi⟩ : ∃ hi, min (lo + c) 4503599627370496 = hi := ⟨_, rfl⟩
  have hw2 : wrap64 (lo + c) = lo + c := IntWalk.wrap64_in _ (by omega)
  have hne : (T + 1 == 0) = false := by simp; omega
  rw [show drLo a b 52 = lo by unfold drLo; rw [hT, hlo], show drHi a b c = hi by unfold drHi drLo; rw [hT, hlo, hhi]]
  refine ⟨ckS_ok (by omega) (by omega) (by omega), fun w => ?_⟩
  clear p1
  go_enter Tryd.func26, Tryd.ntmps26
  go_wp2
  exact bodyPost_ret (v := .agg #[.int .i64 lo, .int .i64 hi]) (by simp [results, Tryd.results26, go_sem]) rfl ⟨rfl, by (repeat (first | with_reducible exact Below.refl _ _ | with_reducible assumption | refine Below.alloc ?_ (by (try simp); try omega) _ | refine Below.setCell ?_ (by (try simp); try omega) _ | refine below_drewN ?_ _ | refine Below.drew ?_ | (with_reducible refine Below.trans ?_ (Below.mono (by assumption) (by (try simp); try omega)))))⟩
set_option maxHeartbeats 1000000 in
theorem drSmall_fn (a b c : Int) (b0 : 0 ≤ b) (b1 : b ≤ 255) (c0 : 0 ≤ c) (c1 : c ≤ 4294967295) :
    ckS (drLo a b 37) (drTo a b c) = 0 ∧ ∀ w, Calls Tryd.prog 27 #[.agg #[.int .i64 a, .int .u8 b, .int .u32 c]] w fun r w' => r = .returned (.agg #[.int .i64 (drLo a b 37), .int .i64 (drTo a b c)]) ∧ Below w.heap.size w w' := by
  obtain ⟨p0, p1⟩ := pow2_bd (b % 37).toNat 37 (by omega) (by omega)
  obtain ⟨T, hT⟩ : ∃ T : Int, (2 : Int) ^ (b % 37).toNat = T := ⟨_, rfl⟩
  rw [hT] at p0 p1
  have p1' : T ≤ 68719476736 := p1
  have hw : wrap64 T = T := IntWalk.wrap64_in _ (by omega)
  have hw1 : wrap64 (T + 1) = T + 1 := IntWalk.wrap64_in _ (by omega)
  obtain ⟨t0, t1⟩ := tmod_bd a (T + 1) (by omega)
  obtain ⟨lo, hlo⟩ : ∃ lo, a.tmod (T + 1) = lo := ⟨_, rfl⟩
  rw [hlo] at t0 t1
  obtain ⟨S, hS⟩ : ∃ S : Int, (2 : Int) ^ (b % 32).toNat = S := ⟨_, rfl⟩
  have s0 : 1 ≤ S := by rw [← hS]; exact (pow2_bd (b % 32).toNat 32 (by omega) (by omega)).1
  have q0 : 0 ≤ c / S := Int.ediv_nonneg c0 (by omega)
  have q1 : c / S ≤ c := Int.ediv_le_self _ c0
  obtain ⟨q, hq⟩ : ∃ q, c / S = q := ⟨_, rfl⟩
  rw [hq] at q0 q1
  obtain ⟨hi, hhi⟩ : ∃ hi, lo + q = hi := ⟨_, rfl⟩
  have hw2 : wrap64 hi = hi := IntWalk.wrap64_in _ (by omega)
  have hne : (T + 1 == 0) = false := by simp; omega
  rw [show drLo a b 37 = lo by unfold drLo; rw [hT, hlo], show drTo a b c = hi by unfold drTo drLo; rw [hT, hlo, hS, hq, hhi]]
  refine ⟨ckS_ok (by omega) (by omega) (by omega), fun w => ?_⟩
  clear p1
  go_enter Tryd.func27, Tryd.ntmps27
  go_wp2
  exact bodyPost_ret (v := .agg #[.int .i64 lo, .int .i64 hi]) (by simp [results, Tryd.results27, go_sem]) rfl ⟨rfl, by (repeat (first | with_reducible exact Below.refl _ _ | with_reducible assumption | refine Below.alloc ?_ (by (try simp); try omega) _ | refine Below.setCell ?_ (by (try simp); try omega) _ | refine below_drewN ?_ _ | refine Below.drew ?_ | (with_reducible refine Below.trans ?_ (Below.mono (by assumption) (by (try simp); try omega)))))⟩
/-- The five pairs of ends. -/
def prF (a b c d xl xh xl' xh' sl sh sl' sh' : Int) (i : Nat) : Int × Int × Int × Int :=
  if i = 0 then (a, b, c, d) else if i = 1 then (xl, xh, xl', xh') else if i = 2 then (sl, sh, sl', sh') else if i = 3 then (xl, xh, sl', sh') else (a, b, xl', xh')
/-- A row of five pairs of intervals. -/
def PrsAt (w : World) (B : Nat) (f : Nat → Int × Int × Int × Int) : Prop :=
  ∀ i, i < 5 → w.cell? ⟨B, 4 * i, none⟩ = some (.int .i64 (f i).1) ∧ w.cell? ⟨B, 4 * i + 1, none⟩ = some (.int .i64 (f i).2.1) ∧ w.cell? ⟨B, 4 * i + 2, none⟩ = some (.int .i64 (f i).2.2.1) ∧ w.cell? ⟨B, 4 * i + 3, none⟩ = some (.int .i64 (f i).2.2.2)
theorem PrsAt.keep {w w' : World} {B : Nat} {f : Nat → Int × Int × Int × Int} (hb : Below w.heap.size w w') (h : PrsAt w B f) : PrsAt w' B f :=
  fun i hi => ⟨bkeep hb (h i hi).1, bkeep hb (h i hi).2.1, bkeep hb (h i hi).2.2.1, bkeep hb (h i hi).2.2.2⟩
theorem prs_new (w : World) (t : TypeId) (a b c d xl xh xl' xh' sl sh sl' sh' : Int) :
    PrsAt (w.alloc (.cells #[.int .i64 a, .int .i64 b, .int .i64 c, .int .i64 d, .int .i64 xl, .int .i64 xh, .int .i64 xl', .int .i64 xh', .int .i64 sl, .int .i64 sh, .int .i64 sl', .int .i64 sh', .int .i64 xl, .int .i64 xh, .int .i64 sl', .int .i64 sh', .int .i64 a, .int .i64 b, .int .i64 xl', .int .i64 xh'] t)) w.heap.size (prF a b c d xl xh xl' xh' sl sh sl' sh') := by
  intro i hi
  obtain rfl | rfl | rfl | rfl | rfl : i = 0 ∨ i = 1 ∨ i = 2 ∨ i = 3 ∨ i = 4 := by omega
  all_goals simp [prF]
theorem keep6 {w0 w' : World} {p0 p1 p2 p3 p4 p5 : Addr} {v0 v1 v2 v3 v4 v5 : Value} (hb : Below w0.heap.size w0 w') (h0 : w0.cell? p0 = some v0) (h1 : w0.cell? p1 = some v1) (h2 : w0.cell? p2 = some v2) (h3 : w0.cell? p3 = some v3) (h4 : w0.cell? p4 = some v4) (h5 : w0.cell? p5 = some v5) :
    w'.cell? p0 = some v0 ∧ w'.cell? p1 = some v1 ∧ w'.cell? p2 = some v2 ∧ w'.cell? p3 = some v3 ∧ w'.cell? p4 = some v4 ∧ w'.cell? p5 = some v5 := ⟨bkeep hb h0, bkeep hb h1, bkeep hb h2, bkeep hb h3, bkeep hb h4, bkeep hb h5⟩
theorem keep14 {w0 w' : World} {p0 p1 p2 p3 p4 p5 p6 p7 p8 p9 p10 p11 p12 p13 : Addr} {v0 v1 v2 v3 v4 v5 v6 v7 v8 v9 v10 v11 v12 v13 : Value} (hb : Below w0.heap.size w0 w') (h0 : w0.cell? p0 = some v0) (h1 : w0.cell? p1 = some v1) (h2 : w0.cell? p2 = some v2) (h3 : w0.cell? p3 = some v3) (h4 : w0.cell? p4 = some v4) (h5 : w0.cell? p5 = some v5) (h6 : w0.cell? p6 = some v6) (h7 : w0.cell? p7 = some v7) (h8 : w0.cell? p8 = some v8) (h9 : w0.cell? p9 = some v9) (h10 : w0.cell? p10 = some v10) (h11 : w0.cell? p11 = some v11) (h12 : w0.cell? p12 = some v12) (h13 : w0.cell? p13 = some v13) :
    w'.cell? p0 = some v0 ∧ w'.cell? p1 = some v1 ∧ w'.cell? p2 = some v2 ∧ w'.cell? p3 = some v3 ∧ w'.cell? p4 = some v4 ∧ w'.cell? p5 = some v5 ∧ w'.cell? p6 = some v6 ∧ w'.cell? p7 = some v7 ∧ w'.cell? p8 = some v8 ∧ w'.cell? p9 = some v9 ∧ w'.cell? p10 = some v10 ∧ w'.cell? p11 = some v11 ∧ w'.cell? p12 = some v12 ∧ w'.cell? p13 = some v13 := ⟨bkeep hb h0, bkeep hb h1, bkeep hb h2, bkeep hb h3, bkeep hb h4, bkeep hb h5, bkeep hb h6, bkeep hb h7, bkeep hb h8, bkeep hb h9, bkeep hb h10, bkeep hb h11, bkeep hb h12, bkeep hb h13⟩
end Go.Proofs.YtabnpidmhmebfaaDoor
