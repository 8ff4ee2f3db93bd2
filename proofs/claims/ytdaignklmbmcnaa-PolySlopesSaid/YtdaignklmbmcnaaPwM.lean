/-
  The reference's product of intervals, by itself.
-/
import Derived.Test.YtdaignklmbmcnaaRefB
import Derived.IntWalk
import Derived.Test.YtdaignklmbmcnaaSpW
import Derived.Test.YtdaignklmbmcnaaSpMb
import Derived.Deep.QuietTactic
import Derived.BigQuiet
import Derived.BigRegion
import Derived.Deep.DeepCutAuto
import Derived.Deep.RegionHeld3
import Derived.Deep.RegionWith
import Derived.Deep.CutRange
namespace Go.Proofs.Ytdaignklmbmcnaa
open Go.RowKit

theorem cellAlloc {w : World} {o : Obj} {p : Addr} {v : Value} (h : w.cell? p = some v) : (w.alloc o).cell? p = some v := bkeep ((Below.refl w.heap.size w).alloc (Nat.le_refl _) o) h

theorem cellDrew {w : World} {p : Addr} {v : Value} (h : w.cell? p = some v) : w.drew.cell? p = some v := h
theorem szA (w : World) (o : Obj) : (w.alloc o).heap.size = w.heap.size + 1 := by simp
theorem undrew {A B : World} (h : Below A.drew.heap.size A.drew B) : Below A.heap.size A B := (Below.drew (Below.refl A.heap.size A)).trans h
theorem sinceD {w a : World} (h : Since w a) : Since w a.drew := Below.drew h.out

/-- Two cells of a block that may be written. -/
def Own (w : World) (b : Nat) (x y : Value) : Prop := w.cell? ⟨b, 0, none⟩ = some x ∧ w.cell? ⟨b, 1, none⟩ = some y ∧ w.frozen? ⟨b, 0, none⟩ = false ∧ w.frozen? ⟨b, 1, none⟩ = false ∧ b < w.heap.size
theorem ownKeep {w w' : World} {b : Nat} {x y : Value} (hb : Below w.heap.size w w') (h : Own w b x y) : Own w' b x y :=
  ⟨bkeep hb h.1, bkeep hb h.2.1, bfrz hb h.2.2.2.2 h.2.2.1, bfrz hb h.2.2.2.2 h.2.2.2.1, Nat.lt_of_lt_of_le h.2.2.2.2 hb.size⟩
theorem ownAlloc {w : World} {o : Obj} {b : Nat} {x y : Value} (h : Own w b x y) : Own (w.alloc o) b x y := ownKeep ((Below.refl w.heap.size w).alloc (Nat.le_refl _) o) h
theorem ownHere (w : World) (x y : Value) (t : TypeId) : Own (w.alloc (.cells #[x, y] t)) w.heap.size x y := ⟨by simp, by simp, by simp, by simp, by simp⟩
theorem ownNew {w w' : World} {x y : Value} {t : TypeId} (hb : Below (w.alloc (.cells #[x, y] t)).heap.size (w.alloc (.cells #[x, y] t)) w') : Own w' w.heap.size x y := ownKeep hb (ownHere w x y t)
theorem ownNew2 {w w' : World} {x y : Value} {t : TypeId} {o : Obj} (hb : Below ((w.alloc (.cells #[x, y] t)).alloc o).heap.size ((w.alloc (.cells #[x, y] t)).alloc o) w') : Own w' w.heap.size x y := ownKeep hb (ownAlloc (ownHere w x y t))
theorem sinceA2 {w a b : World} {o o' : Obj} (h : Since w a) (k : Below ((a.alloc o).alloc o').heap.size ((a.alloc o).alloc o') b) : Since w b :=
  Since.step (w := w) (a := (a.alloc o).alloc o') ((h.out.alloc h.out.size o).alloc (by have := h.out.size; simp; omega) o') k

theorem newA4 {w w' : World} {a b c d : Value} {t : TypeId} (hb : Below (w.alloc (.cells #[a, b, c, d] t)).heap.size (w.alloc (.cells #[a, b, c, d] t)) w') :
    w'.cell? ⟨w.heap.size, 0, none⟩ = some a ∧ w'.cell? ⟨w.heap.size, 1, none⟩ = some b ∧ w'.cell? ⟨w.heap.size, 2, none⟩ = some c ∧ w'.cell? ⟨w.heap.size, 3, none⟩ = some d :=
  ⟨bkeep hb (by simp), bkeep hb (by simp), bkeep hb (by simp), bkeep hb (by simp)⟩
theorem Since.alloc {w a : World} {o : Obj} (h : Since w a) : Since w (a.alloc o) := Below.alloc h.out h.out.size o
theorem cellHere0 (w : World) (x y : Value) (t : TypeId) : (w.alloc (.cells #[x, y] t)).cell? ⟨w.heap.size, 0, none⟩ = some x := by simp
theorem cellHere1 (w : World) (x y : Value) (t : TypeId) : (w.alloc (.cells #[x, y] t)).cell? ⟨w.heap.size, 1, none⟩ = some y := by simp

theorem ownFst (w : World) (x y : Value) (t : TypeId) (o : Obj) (k : Nat) (hk : k = w.heap.size) : Own ((w.alloc (.cells #[x, y] t)).alloc o) k x y := by subst hk; exact ownAlloc (ownHere w x y t)
theorem ownSnd (w : World) (x y : Value) (t : TypeId) (k : Nat) (hk : k = w.heap.size) : Own (w.alloc (.cells #[x, y] t)) k x y := by subst hk; exact ownHere w x y t
theorem Own.drew {w : World} {b : Nat} {x y : Value} (h : Own w b x y) : Own w.drew b x y := h
theorem Since.drew {w a : World} (h : Since w a) : Since w a.drew := Below.drew h.out

/-- A box of two cells, written anew: what else lies stays. -/
theorem cellSet2 {w : World} {b : Nat} {x y v : Value} {p : Addr} (h : w.cell? p = some v) (hne : p.block ≠ b) : ((w.setCell ⟨b, 0, none⟩ x).setCell ⟨b, 1, none⟩ y).cell? p = some v := by
  rw [World.cell?_setCell_far _ _ _ _ (fun e => hne e.symm), World.cell?_setCell_far _ _ _ _ (fun e => hne e.symm)]; exact h
theorem Since.set2 {w a : World} {b : Nat} {x y : Value} (h : Since w a) (hb : w.heap.size ≤ b) : Since w ((a.setCell ⟨b, 0, none⟩ x).setCell ⟨b, 1, none⟩ y) :=
  Below.setCell (Below.setCell h.out hb x) hb y
theorem Own.of_set2 {w : World} {b : Nat} {x y x' y' : Value} (h : Own w b x y) : Own ((w.setCell ⟨b, 0, none⟩ x').setCell ⟨b, 1, none⟩ y') b x' y' := by
  obtain ⟨h0, h1, h2, h3, h4⟩ := h
  refine ⟨?_, ?_, ?_, ?_, by simpa using h4⟩ <;> simp [go_sem, h0, h1, h2, h3]
theorem Own.far_set2 {w : World} {b b' : Nat} {x y x' y' : Value} (h : Own w b x y) (hne : b ≠ b') : Own ((w.setCell ⟨b', 0, none⟩ x').setCell ⟨b', 1, none⟩ y') b x y := by
  obtain ⟨h0, h1, h2, h3, h4⟩ := h
  exact ⟨cellSet2 h0 hne, cellSet2 h1 hne, by simpa using h2, by simpa using h3, by simpa using h4⟩



def okF (x : Int) : Bool := decide (-4503599627370496 ≤ x ∧ x ≤ 4503599627370496)
theorem okF_true {x : Int} (h : okF x = true) : -4503599627370496 ≤ x ∧ x ≤ 4503599627370496 := of_decide_eq_true h
theorem okF_false {x : Int} (h : okF x = false) : ¬ (-4503599627370496 ≤ x ∧ x ≤ 4503599627370496) := of_decide_eq_false h
theorem okF_nonneg {x : Int} (h : 0 ≤ x) : okF x = decide (x ≤ 4503599627370496) := by
  unfold okF
  by_cases c : 4503599627370496 < x
  · rw [decide_eq_false (by omega), decide_eq_false (by omega)]
  · rw [decide_eq_true (by omega), decide_eq_true (by omega)]
theorem lim_okF (x : Int) : lim x = if okF x then (x, 0) else (0, 6) := by
  unfold lim okF
  by_cases h : x < -4503599627370496 ∨ 4503599627370496 < x
  · rw [if_pos h, if_neg]; simp; omega
  · rw [if_neg h, if_pos]; simp; omega
theorem wU {n : Int} (h0 : 0 ≤ n) (h1 : n < 18446744073709551616) : IntKind.u64.wrap n = n := by
  unfold IntKind.wrap; simp [IntKind.signed, IntKind.bits]; omega
theorem mul_parts (x y : Int) (x0 : 0 ≤ x) (x1 : x ≤ 4503599627370496) (y0 : 0 ≤ y) (y1 : y ≤ 4503599627370496) :
    0 ≤ x / 67108864 * (y / 67108864) ∧ x / 67108864 * (y / 67108864) ≤ 4503599627370496 ∧ 0 ≤ x / 67108864 * (y % 67108864) ∧ x / 67108864 * (y % 67108864) ≤ 4503599627370496 ∧
    0 ≤ x % 67108864 * (y / 67108864) ∧ x % 67108864 * (y / 67108864) ≤ 4503599627370496 ∧ 0 ≤ x % 67108864 * (y % 67108864) ∧ x % 67108864 * (y % 67108864) ≤ 4503599627370496 ∧
    x * y = 4503599627370496 * (x / 67108864 * (y / 67108864)) + 67108864 * (x / 67108864 * (y % 67108864) + x % 67108864 * (y / 67108864)) + x % 67108864 * (y % 67108864) := by
  have ex := Int.mul_ediv_add_emod x 67108864
  have ey := Int.mul_ediv_add_emod y 67108864
  have hX : 0 ≤ x / 67108864 ∧ x / 67108864 ≤ 67108864 := by omega
  have hY : 0 ≤ y / 67108864 ∧ y / 67108864 ≤ 67108864 := by omega
  have hu : 0 ≤ x % 67108864 ∧ x % 67108864 ≤ 67108864 := by omega
  have hv : 0 ≤ y % 67108864 ∧ y % 67108864 ≤ 67108864 := by omega
  generalize x / 67108864 = X at *
  generalize y / 67108864 = Y at *
  generalize x % 67108864 = u at *
  generalize y % 67108864 = v at *
  have bd : ∀ p q : Int, 0 ≤ p ∧ p ≤ 67108864 → 0 ≤ q ∧ q ≤ 67108864 → 0 ≤ p * q ∧ p * q ≤ 4503599627370496 := fun p q hp hq =>
    ⟨Int.mul_nonneg hp.1 hq.1, by have := Int.mul_le_mul hp.2 hq.2 hq.1 (by omega : (0:Int) ≤ 67108864); omega⟩
  have b1 := bd X Y hX hY
  have b2 := bd X v hX hv
  have b3 := bd u Y hu hY
  have b4 := bd u v hu hv
  refine ⟨b1.1, b1.2, b2.1, b2.2, b3.1, b3.2, b4.1, b4.2, ?_⟩
  rw [← ex, ← ey]; grind
theorem mul_ref_num (A M L P : Int) (e : P = 4503599627370496 * A + 67108864 * M + L) :
    A * 1048576 + M / 64 + (M % 64 * 67108864 + L) / 4294967296 = P / 4294967296 ∧ (M % 64 * 67108864 + L) % 4294967296 = P % 4294967296 := by omega
theorem mul_ref_big (A M L P : Int) (A0 : 8589934592 ≤ A) (M0 : 0 ≤ M) (L0 : 0 ≤ L) (e : P = 4503599627370496 * A + 67108864 * M + L) : 4503599627370496 < P / 4294967296 := by omega

theorem put_big (ng rest up : Bool) (n m : Int) (w : World) (h0 : 0 ≤ n) (h1 : n ≤ 1152921504606846976) (hm : m = if rest && (up != ng) then n + 1 else n) :
    Calls Try.prog 61 #[.bool ng, .int .u64 n, .bool rest, .bool up] w fun e w' => e = .returned (.tuple #[.int .i64 (putV ng m).1, .bool (putV ng m).2]) ∧ w = w' := by
  by_cases hb : 4503599627370496 < m
  · rw [show putV ng m = (0, false) by unfold putV; rw [if_pos hb]]
    cases ng <;> cases rest <;> cases up <;> simp at hm <;> subst hm
    all_goals
      go_enter Try.func61, Try.ntmps61
      go_wp2
      go_ret2
      exact ⟨rfl, rfl⟩
  · rw [show putV ng m = (if ng then -m else m, true) by unfold putV; rw [if_neg hb]]
    cases ng <;> cases rest <;> cases up <;> simp at hm <;> subst hm
    all_goals
      go_enter Try.func61, Try.ntmps61
      go_wp2
      go_ret2
      exact ⟨rfl, rfl⟩
theorem putV_sg (ng : Bool) (m : Int) : putV ng m = ((sgR ng m).1, (sgR ng m).2 == 0) := by
  unfold putV sgR; split <;> rfl
theorem rdiv_le (up : Bool) (n d : Int) : n / d ≤ rdiv up n d := by unfold rdiv; split <;> omega

set_option maxHeartbeats 2000000 in
theorem refMul1_any (a b : Int) (up : Bool) (w : World) (a0 : -4503599627370496 ≤ a) (a1 : a ≤ 4503599627370496) (b0 : -4503599627370496 ≤ b) (b1 : b ≤ 4503599627370496) :
    Calls Try.prog 48 #[.int .i64 a, .int .i64 b, .bool up] w fun e w' =>
      e = .returned (.tuple #[.int .i64 (lim (rq up (a * b) 4294967296)).1, .bool ((lim (rq up (a * b) 4294967296)).2 == 0)]) ∧ w = w' := by
  have hsa := fun w => refSize_any a w (by omega) (by omega)
  have hsb := fun w => refSize_any b w (by omega) (by omega)
  obtain ⟨ng, hn⟩ : ∃ ng, ng = (decide (a < 0) != decide (b < 0)) := ⟨_, rfl⟩
  have hr := ratio_num a b 4294967296 up (by omega) ng hn
  have x0 : 0 ≤ (a.natAbs : Int) := by omega
  have x1 : (a.natAbs : Int) ≤ 4503599627370496 := by omega
  have y0 : 0 ≤ (b.natAbs : Int) := by omega
  have y1 : (b.natAbs : Int) ≤ 4503599627370496 := by omega
  rw [← hr]
  clear hr
  generalize (a.natAbs : Int) = x at *
  generalize (b.natAbs : Int) = y at *
  obtain ⟨p1, p2, p3, p4, p5, p6, p7, p8, pe⟩ := mul_parts x y x0 x1 y0 y1
  generalize x * y = P at *
  obtain ⟨X, hX⟩ : ∃ X, x / 67108864 = X := ⟨_, rfl⟩
  obtain ⟨Y, hY⟩ : ∃ Y, y / 67108864 = Y := ⟨_, rfl⟩
  obtain ⟨u, hu⟩ : ∃ u, x % 67108864 = u := ⟨_, rfl⟩
  obtain ⟨v, hv⟩ : ∃ v, y % 67108864 = v := ⟨_, rfl⟩
  have X0 : 0 ≤ X ∧ X ≤ 67108864 := by omega
  have Y0 : 0 ≤ Y ∧ Y ≤ 67108864 := by omega
  have u0 : 0 ≤ u ∧ u ≤ 67108864 := by omega
  have v0 : 0 ≤ v ∧ v ≤ 67108864 := by omega
  rw [hX, hY] at p1 p2
  rw [hX, hv] at p3 p4
  rw [hu, hY] at p5 p6
  rw [hu, hv] at p7 p8
  rw [hX, hY, hu, hv] at pe
  obtain ⟨A, hA⟩ : ∃ A, X * Y = A := ⟨_, rfl⟩
  obtain ⟨M1, hM1⟩ : ∃ M, X * v = M := ⟨_, rfl⟩
  obtain ⟨M2, hM2⟩ : ∃ M, u * Y = M := ⟨_, rfl⟩
  obtain ⟨L, hL⟩ : ∃ L, u * v = L := ⟨_, rfl⟩
  rw [hA] at p1 p2
  rw [hM1] at p3 p4
  rw [hM2] at p5 p6
  rw [hL] at p7 p8
  rw [hA, hM1, hM2, hL] at pe
  have e1 : IntKind.u64.wrap (X * Y) = A := by rw [hA]; exact wU p1 (by omega)
  have e2 : IntKind.u64.wrap (X * v) = M1 := by rw [hM1]; exact wU p3 (by omega)
  have e3 : IntKind.u64.wrap (u * Y) = M2 := by rw [hM2]; exact wU p5 (by omega)
  have e4 : IntKind.u64.wrap (u * v) = L := by rw [hL]; exact wU p7 (by omega)
  clear hA hM1 hM2 hL
  have hnum := mul_ref_num A (M1 + M2) L P pe
  by_cases hb : 8589934592 ≤ A
  · have hq := mul_ref_big A (M1 + M2) L P hb (by omega) p7 pe
    have hq2 := rdiv_le (up != ng) P 4294967296
    rw [show sgR ng (rdiv (up != ng) P 4294967296) = (0, 6) by unfold sgR; rw [if_pos (by omega)]]
    clear hq hq2 hnum pe hn
    go_enter Try.func48, Try.ntmps48
    go_wp2_with (go_at_call 60; (first | (with_reducible refine (hsa _).mono ?_) | (with_reducible refine (hsb _).mono ?_)); rintro e w' ⟨rfl, rfl⟩)
    go_ret2
    exact ⟨rfl, rfl⟩
  · have hp := fun w => put_big ng (decide (0 < ((M1 + M2) % 64 * 67108864 + L) % 4294967296)) up (A * 1048576 + (M1 + M2) / 64 + ((M1 + M2) % 64 * 67108864 + L) / 4294967296) (rdiv (up != ng) P 4294967296) w (by omega) (by omega)
      (by
        rw [hnum.1, hnum.2]; unfold rdiv
        cases up <;> cases ng <;> simp)
    rw [putV_sg] at hp
    dsimp only at hp
    generalize sgR ng (rdiv (up != ng) P 4294967296) = R at *
    obtain ⟨s, hs⟩ : ∃ s, decide (a < 0) = s := ⟨_, rfl⟩
    obtain ⟨t, ht⟩ : ∃ t, decide (b < 0) = t := ⟨_, rfl⟩
    rw [hs, ht] at hn
    subst hn
    clear hnum pe
    go_enter Try.func48, Try.ntmps48
    go_wp2_with (first | (go_at_call 60; (first | (with_reducible refine (hsa _).mono ?_) | (with_reducible refine (hsb _).mono ?_)); rintro e w' ⟨rfl, rfl⟩) | (go_at_call 61; refine (hp _).mono ?_; rintro e w' ⟨rfl, rfl⟩))
    go_ret2
    exact ⟨rfl, rfl⟩

def q4 (a b c d : Int) (k : Nat) : Int := if k = 0 then a else if k = 1 then b else if k = 2 then c else d
def mn4 (x : Nat → Int) : Nat → Int
  | 0 => x 0
  | k + 1 => min (mn4 x k) (x (k + 1))
def mx4 (x : Nat → Int) : Nat → Int
  | 0 => x 0
  | k + 1 => max (mx4 x k) (x (k + 1))
theorem q4_cells (w : World) (a b c d : Int) (t : TypeId) (k : Nat) (hk : k < 4) : (w.alloc (.cells #[.int .i64 a, .int .i64 b, .int .i64 c, .int .i64 d] t)).cell? ⟨w.heap.size, k, none⟩ = some (.int .i64 (q4 a b c d k)) := by
  match k, hk with
  | 0, _ => simp [q4]
  | 1, _ => simp [q4]
  | 2, _ => simp [q4]
  | 3, _ => simp [q4]

set_option maxRecDepth 100000 in
set_option maxHeartbeats 4000000 in
theorem four_any (a0 a1 a2 a3 b0 b1 b2 b3 : Int) (f : Bool) (w : World) :
    Calls Try.prog 49 #[.agg #[.int .i64 a0, .int .i64 a1, .int .i64 a2, .int .i64 a3], .agg #[.int .i64 b0, .int .i64 b1, .int .i64 b2, .int .i64 b3], .bool f] w fun e w' =>
      e = .returned (.tuple #[.agg #[.int .i64 (resR (mn4 (q4 a0 a1 a2 a3) 3) (mx4 (q4 b0 b1 b2 b3) 3) f).1, .int .i64 (resR (mn4 (q4 a0 a1 a2 a3) 3) (mx4 (q4 b0 b1 b2 b3) 3) f).2.1], .int .i64 (resR (mn4 (q4 a0 a1 a2 a3) 3) (mx4 (q4 b0 b1 b2 b3) 3) f).2.2]) ∧ Below w.heap.size w w' := by
  have hq := fun w => rResult_any (mn4 (q4 a0 a1 a2 a3) 3) (mx4 (q4 b0 b1 b2 b3) 3) f w
  generalize resR (mn4 (q4 a0 a1 a2 a3) 3) (mx4 (q4 b0 b1 b2 b3) 3) f = m at *
  go_enter Try.func49, Try.ntmps49
  go_wp2
  go_quiet (fail)
  go_wp2
  go_loopw [8, 9, 10] (fun lo hi i wr => ∃ k : Nat, k ≤ 3 ∧ i = .int .i64 ((k : Int) + 1) ∧ lo = .int .i64 (mn4 (q4 a0 a1 a2 a3) k) ∧ hi = .int .i64 (mx4 (q4 b0 b1 b2 b3) k) ∧ (∀ j, j < 4 → wr.cell? ⟨w.heap.size, j, none⟩ = some (.int .i64 (q4 a0 a1 a2 a3 j))) ∧ (∀ j, j < 4 → wr.cell? ⟨w.heap.size + 1, j, none⟩ = some (.int .i64 (q4 b0 b1 b2 b3 j))) ∧
      wr.cell? ⟨w.heap.size + 1 + 1, 0, none⟩ = some (.int .i64 0) ∧ wr.cell? ⟨w.heap.size + 1 + 1, 1, none⟩ = some (.int .i64 0) ∧ wr.frozen? ⟨w.heap.size + 1 + 1, 0, none⟩ = false ∧ wr.frozen? ⟨w.heap.size + 1 + 1, 1, none⟩ = false ∧ w.heap.size + 1 + 1 < wr.heap.size ∧ Below w.heap.size w wr)
    (fun _ _ i _ => 4 - (intOf i).toNat)
  case atStart =>
    refine ⟨0, by omega, rfl, rfl, rfl, fun j hj => ?_, fun j hj => ?_, by simp [go_sem], by simp [go_sem], by simp [go_sem], by simp [go_sem], by simp, by (repeat (first | with_reducible exact Below.refl _ _ | with_reducible assumption | refine Below.alloc ?_ (by (try simp); try omega) _ | refine Below.setCell ?_ (by (try simp); try omega) _ | refine below_drewN ?_ _ | refine Below.drew ?_ | (with_reducible refine Below.trans ?_ (Below.mono (by assumption) (by (try simp); try omega)))))⟩
    · exact bkeep (by (repeat (first | with_reducible exact Below.refl _ _ | with_reducible assumption | refine Below.alloc ?_ (by (try simp); try omega) _ | refine Below.setCell ?_ (by (try simp); try omega) _ | refine below_drewN ?_ _ | refine Below.drew ?_ | (with_reducible refine Below.trans ?_ (Below.mono (by assumption) (by (try simp); try omega)))))) (q4_cells w a0 a1 a2 a3 71 j hj)
    · have h := q4_cells (w.alloc (.cells #[.int .i64 a0, .int .i64 a1, .int .i64 a2, .int .i64 a3] 71)) b0 b1 b2 b3 71 j hj
      rw [show ∀ o : Obj, (w.alloc o).heap.size = w.heap.size + 1 from fun o => by simp] at h
      exact bkeep (by (repeat (first | with_reducible exact Below.refl _ _ | with_reducible assumption | refine Below.alloc ?_ (by (try simp); try omega) _ | refine Below.setCell ?_ (by (try simp); try omega) _ | refine below_drewN ?_ _ | refine Below.drew ?_ | (with_reducible refine Below.trans ?_ (Below.mono (by assumption) (by (try simp); try omega)))))) h
  case round =>
    obtain ⟨k, hk, rfl, rfl, rfl, ha, hb, r0, r1, z0, z1, hsz, hnx⟩ := hrel
    by_cases h : k < 3
    · have c1 := ha (k + 1) (by omega)
      have c2 := hb (k + 1) (by omega)
      go_wp2
      go_quiet (fail)
      go_wp2
      go_roundw
      case rel => exact ⟨k + 1, by omega, by simp, rfl, rfl, ha, hb, r0, r1, z0, z1, hsz, by (repeat (first | with_reducible exact Below.refl _ _ | with_reducible assumption | refine Below.alloc ?_ (by (try simp); try omega) _ | refine Below.setCell ?_ (by (try simp); try omega) _ | refine below_drewN ?_ _ | refine Below.drew ?_ | (with_reducible refine Below.trans ?_ (Below.mono (by assumption) (by (try simp); try omega)))))⟩
      case measure => simp [intOf]; omega
    · have h3 : k = 3 := by omega
      subst h3
      clear ha hb
      go_wp2_with (go_at_call 50; refine (hq _).mono ?_; rintro e w1 ⟨rfl, hb1⟩; have r0' := bkeep hb1 r0; have r1' := bkeep hb1 r1; have z0' := bfrz hb1 hsz z0; have z1' := bfrz hb1 hsz z1)
      exact bodyPost_ret (v := .tuple #[.agg #[.int .i64 (m.1), .int .i64 (m.2.1)], .int .i64 (m.2.2)]) (by simp [results, Try.results49, go_sem, r0', r1']) rfl ⟨rfl, by (repeat (first | with_reducible exact Below.refl _ _ | with_reducible assumption | refine Below.alloc ?_ (by (try simp); try omega) _ | refine Below.setCell ?_ (by (try simp); try omega) _ | refine below_drewN ?_ _ | refine Below.drew ?_ | (with_reducible refine Below.trans ?_ (Below.mono (by assumption) (by (try simp); try omega)))))⟩

/-- Four numbers in a block: closed to the walk. -/
def A4 (w : World) (B : Nat) (x : Nat → Int) : Prop := B < w.heap.size ∧ ∀ j, j < 4 → w.cell? ⟨B, j, none⟩ = some (.int .i64 (x j)) ∧ w.frozen? ⟨B, j, none⟩ = false
theorem A4.keep {w w' : World} {B : Nat} {x : Nat → Int} (h : A4 w B x) (hb : Below w.heap.size w w') : A4 w' B x :=
  ⟨Nat.lt_of_lt_of_le h.1 hb.size, fun j hj => ⟨bkeep hb (h.2 j hj).1, bfrz hb h.1 (h.2 j hj).2⟩⟩
theorem A4.alloc {w : World} {B : Nat} {x : Nat → Int} (h : A4 w B x) (o : Obj) : A4 (w.alloc o) B x := h.keep ((Below.refl _ _).alloc (Nat.le_refl _) o)
theorem A4.drewN {w : World} {B : Nat} {x : Nat → Int} (h : A4 w B x) (n : Nat) : A4 (w.drewN n) B x := h
theorem A4.set {w : World} {B : Nat} {x : Nat → Int} (h : A4 w B x) (k : Nat) (hk : k < 4) (v : Int) : A4 (w.setCell ⟨B, k, none⟩ (.int .i64 v)) B (fun j => if j = k then v else x j) := by
  refine ⟨by simpa using h.1, fun j hj => ⟨?_, by simpa using (h.2 j hj).2⟩⟩
  by_cases e : j = k
  · subst e; rw [World.cell?_setCell_same _ _ _ (h.2 j hj).1]; simp
  · rw [World.cell?_setCell_other _ _ _ _ (by simp only [ne_eq, Addr.mk.injEq, true_and, and_true]; exact fun h => e h.symm), (h.2 j hj).1]; simp [e]
theorem A4.far {w : World} {B : Nat} {x : Nat → Int} (h : A4 w B x) (b o : Nat) (v : Value) (hne : B ≠ b) : A4 (w.setCell ⟨b, o, none⟩ v) B x :=
  ⟨by simpa using h.1, fun j hj => ⟨by rw [World.cell?_setCell_other _ _ _ _ (by simp only [ne_eq, Addr.mk.injEq, and_true]; exact fun h => hne h.1.symm)]; exact (h.2 j hj).1, by simpa using (h.2 j hj).2⟩⟩
theorem A4.congr {w : World} {B : Nat} {x y : Nat → Int} (h : A4 w B x) (e : ∀ j, j < 4 → x j = y j) : A4 w B y :=
  ⟨h.1, fun j hj => ⟨by rw [(h.2 j hj).1, e j hj], (h.2 j hj).2⟩⟩
theorem A4.new (w : World) (a b c d : Int) (t : TypeId) : A4 (w.alloc (.cells #[.int .i64 a, .int .i64 b, .int .i64 c, .int .i64 d] t)) w.heap.size (q4 a b c d) :=
  ⟨by simp, fun j hj => ⟨q4_cells w a b c d t j hj, by simp⟩⟩

theorem at_cases (x y : Int) (_h : x ≤ y) : (okF x && okF y) = true ∧ atR (lim x) (lim y) = (x, y, 0) ∧ -4503599627370496 ≤ x ∧ y ≤ 4503599627370496 ∨ (okF x && okF y) = false ∧ (atR (lim x) (lim y)).2.2 = 6 := by
  rw [lim_okF, lim_okF]
  cases hx : okF x <;> cases hy : okF y <;> simp [atR]
  have := okF_true hx
  have := okF_true hy
  omega
def allF (o : Nat → Bool) : Nat → Bool
  | 0 => true
  | k + 1 => allF o k && o k
/-- A corner's product, rounded. -/
def pq (up : Bool) (x y : Int) : Int := rq up (x * y) 4294967296
theorem mul_eq (a b c d : Int) (k : ck2S a b c d = 0) :
    sMulR a b c d = resR (mn4 (q4 (lim (pq false a c)).1 (lim (pq false a d)).1 (lim (pq false b c)).1 (lim (pq false b d)).1) 3) (mx4 (q4 (lim (pq true a c)).1 (lim (pq true a d)).1 (lim (pq true b c)).1 (lim (pq true b d)).1) 3)
      (okF (pq false a c) && okF (pq true a c) && (okF (pq false a d) && okF (pq true a d)) && (okF (pq false b c) && okF (pq true b c)) && (okF (pq false b d) && okF (pq true b d))) := by
  rcases ck2S_cases a b c d with ⟨-, h0, h1, h2, h3, h4, h5⟩ | ⟨k', -⟩
  · unfold sMulR
    rw [if_pos k]
    unfold four
    dsimp only
    rw [mulR_in _ (by omega) (by omega) (by omega) (by omega), mulR_in _ (by omega) (by omega) (by omega) (by omega), mulR_in _ (by omega) (by omega) (by omega) (by omega), mulR_in _ (by omega) (by omega) (by omega) (by omega),
      mulR_in _ (by omega) (by omega) (by omega) (by omega), mulR_in _ (by omega) (by omega) (by omega) (by omega), mulR_in _ (by omega) (by omega) (by omega) (by omega), mulR_in _ (by omega) (by omega) (by omega) (by omega)]
    have g0 := rq_le (a * c) 4294967296 (by omega)
    have g1 := rq_le (a * d) 4294967296 (by omega)
    have g2 := rq_le (b * c) 4294967296 (by omega)
    have g3 := rq_le (b * d) 4294967296 (by omega)
    unfold pq
    generalize rq false (a * c) 4294967296 = x0 at *
    generalize rq true (a * c) 4294967296 = y0 at *
    generalize rq false (a * d) 4294967296 = x1 at *
    generalize rq true (a * d) 4294967296 = y1 at *
    generalize rq false (b * c) 4294967296 = x2 at *
    generalize rq true (b * c) 4294967296 = y2 at *
    generalize rq false (b * d) 4294967296 = x3 at *
    generalize rq true (b * d) 4294967296 = y3 at *
    rcases at_cases x0 y0 g0 with ⟨o0, e0, b0, c0⟩ | ⟨o0, e0⟩ <;> rcases at_cases x1 y1 g1 with ⟨o1, e1, b1, c1⟩ | ⟨o1, e1⟩ <;> rcases at_cases x2 y2 g2 with ⟨o2, e2, b2, c2⟩ | ⟨o2, e2⟩ <;> rcases at_cases x3 y3 g3 with ⟨o3, e3, b3, c3⟩ | ⟨o3, e3⟩
    · rw [e0, e1, e2, e3, o0, o1, o2, o3, lim_ok b0 (by omega), lim_ok b1 (by omega), lim_ok b2 (by omega), lim_ok b3 (by omega), lim_ok (q := y0) (by omega) c0, lim_ok (q := y1) (by omega) c1, lim_ok (q := y2) (by omega) c2, lim_ok (q := y3) (by omega) c3]
      show (min (min (min (min 9223372036854775807 x0) x1) x2) x3, max (max (max (max (-9223372036854775808) y0) y1) y2) y3, (0 : Int)) = limS (min (min (min x0 x1) x2) x3) (max (max (max y0 y1) y2) y3)
      rw [Int.min_eq_right (show x0 ≤ 9223372036854775807 by omega), Int.max_eq_right (show -9223372036854775808 ≤ y0 by omega)]
      unfold limS
      rw [if_pos (ckS_ok (by omega) (by omega) (by omega))]
    all_goals simp [ovR, errOf, e0, e1, e2, e3, o0, o1, o2, o3, resR]
  · omega

theorem step_fn (f : Nat → Int) (k : Nat) (L : Int) (h : f k = L) (j : Nat) : (if j = k then L else if j < k then f j else 0) = if j < k + 1 then f j else 0 := by
  by_cases e : j = k
  · subst e; rw [if_pos rfl, if_pos (by omega), h]
  · rw [if_neg e]
    by_cases l : j < k
    · rw [if_pos l, if_pos (by omega)]
    · rw [if_neg l, if_neg (by omega)]
theorem Own.far1 {w : World} {b b' o : Nat} {x y v : Value} (h : Own w b x y) (hne : b ≠ b') : Own (w.setCell ⟨b', o, none⟩ v) b x y := by
  obtain ⟨h0, h1, h2, h3, h4⟩ := h
  refine ⟨?_, ?_, by simpa using h2, by simpa using h3, by simpa using h4⟩
  · rw [World.cell?_setCell_other _ _ _ _ (by simp only [ne_eq, Addr.mk.injEq, and_true]; exact fun h => hne h.1.symm)]; exact h0
  · rw [World.cell?_setCell_other _ _ _ _ (by simp only [ne_eq, Addr.mk.injEq, and_true]; exact fun h => hne h.1.symm)]; exact h1
/-- Whether a corner's two products fit. -/
def cok (a b c d : Int) (j : Nat) : Bool := okF (pq false (q4 a a b b j) (q4 c d c d j)) && okF (pq true (q4 a a b b j) (q4 c d c d j))
theorem q4_bd (a b c d : Int) (k : Nat) (a0 : -4503599627370496 ≤ a) (a1 : a ≤ 4503599627370496) (b0 : -4503599627370496 ≤ b) (b1 : b ≤ 4503599627370496) (c0 : -4503599627370496 ≤ c) (c1 : c ≤ 4503599627370496) (d0 : -4503599627370496 ≤ d) (d1 : d ≤ 4503599627370496) : -4503599627370496 ≤ q4 a b c d k ∧ q4 a b c d k ≤ 4503599627370496 := by
  unfold q4; split <;> (try split) <;> (try split) <;> omega
theorem refMul_q (x y : Int) (up : Bool) (w : World) (a0 : -4503599627370496 ≤ x) (a1 : x ≤ 4503599627370496) (b0 : -4503599627370496 ≤ y) (b1 : y ≤ 4503599627370496) :
    Calls Try.prog 48 #[.int .i64 x, .int .i64 y, .bool up] w fun e w' => e = .returned (.tuple #[.int .i64 (lim (pq up x y)).1, .bool (okF (pq up x y))]) ∧ w' = w := by
  refine (refMul1_any x y up w a0 a1 b0 b1).mono ?_
  rintro e w' ⟨rfl, rfl⟩
  refine ⟨?_, rfl⟩
  unfold pq
  generalize rq up (x * y) 4294967296 = z
  rw [lim_okF]
  cases okF z <;> rfl

set_option maxRecDepth 100000 in
set_option maxHeartbeats 4000000 in
theorem rMul_in (a b c d : Int) (w : World) (k : ckS a b = 0) (k' : ckS c d = 0) :
    Calls Try.prog 31 #[.agg #[.int .i64 a, .int .i64 b], .agg #[.int .i64 c, .int .i64 d]] w fun e w' => e = .returned (.tuple #[.agg #[.int .i64 (sMulR a b c d).1, .int .i64 (sMulR a b c d).2.1], .int .i64 (sMulR a b c d).2.2]) ∧ Below w.heap.size w w' := by
  have vk := valS k
  have vk' := valS k'
  have hr1 := rRight_ok a b k
  have hr2 := rRight_ok c d k'
  have k2 := val2 k k'
  clear k k'
  go_enter Try.func31, Try.ntmps31
  go_wp2_with (first | (go_at_call 46; (with_reducible refine (hr1 _).mono ?_); rintro e w1 ⟨rfl, hb1⟩; (with_reducible (first | (replace hb1 := undrewW hb1) | skip)); have hz1 : w.heap.size + 1 + 1 < w1.heap.size := (by have := hb1.size; (try simp at this); omega); have a01 : w1.cell? ⟨w.heap.size, 0, none⟩ = some (.int .i64 a) := bkeep hb1 (by first | (simp [go_sem]; done)); have a11 : w1.cell? ⟨w.heap.size, 1, none⟩ = some (.int .i64 b) := bkeep hb1 (by first | (simp [go_sem]; done)); have b01 : w1.cell? ⟨w.heap.size + 1, 0, none⟩ = some (.int .i64 c) := bkeep hb1 (by first | (simp [go_sem]; done)); have b11 : w1.cell? ⟨w.heap.size + 1, 1, none⟩ = some (.int .i64 d) := bkeep hb1 (by first | (simp [go_sem]; done)); have r01 : w1.cell? ⟨w.heap.size + 1 + 1, 0, none⟩ = some (.int .i64 0) := bkeep hb1 (by first | (simp [go_sem]; done)); have r11 : w1.cell? ⟨w.heap.size + 1 + 1, 1, none⟩ = some (.int .i64 0) := bkeep hb1 (by first | (simp [go_sem]; done)); have z01 : w1.frozen? ⟨w.heap.size + 1 + 1, 0, none⟩ = false := bfrz hb1 (by first | omega | (simp; done) | (simp; omega)) (by first | (simp [go_sem]; done)); have z11 : w1.frozen? ⟨w.heap.size + 1 + 1, 1, none⟩ = false := bfrz hb1 (by first | omega | (simp; done) | (simp; omega)) (by first | (simp [go_sem]; done))) | (go_at_call 46; (with_reducible refine (hr2 _).mono ?_); rintro e w2 ⟨rfl, hb2⟩; (with_reducible (first | (replace hb2 := undrewW hb2) | skip)); have hz2 : w.heap.size + 1 + 1 < w2.heap.size := (by have := hb2.size; (try simp at this); omega); have a02 : w2.cell? ⟨w.heap.size, 0, none⟩ = some (.int .i64 a) := bkeep hb2 (by first | (simp [go_sem]; done) | (simp [go_sem, a01]; done) | exact a01); have a12 : w2.cell? ⟨w.heap.size, 1, none⟩ = some (.int .i64 b) := bkeep hb2 (by first | (simp [go_sem]; done) | (simp [go_sem, a11]; done) | exact a11); have b02 : w2.cell? ⟨w.heap.size + 1, 0, none⟩ = some (.int .i64 c) := bkeep hb2 (by first | (simp [go_sem]; done) | (simp [go_sem, b01]; done) | exact b01); have b12 : w2.cell? ⟨w.heap.size + 1, 1, none⟩ = some (.int .i64 d) := bkeep hb2 (by first | (simp [go_sem]; done) | (simp [go_sem, b11]; done) | exact b11); have r02 : w2.cell? ⟨w.heap.size + 1 + 1, 0, none⟩ = some (.int .i64 0) := bkeep hb2 (by first | (simp [go_sem]; done) | (simp [go_sem, r01]; done) | exact r01); have r12 : w2.cell? ⟨w.heap.size + 1 + 1, 1, none⟩ = some (.int .i64 0) := bkeep hb2 (by first | (simp [go_sem]; done) | (simp [go_sem, r11]; done) | exact r11); have z02 : w2.frozen? ⟨w.heap.size + 1 + 1, 0, none⟩ = false := bfrz hb2 (by first | omega | (simp; done) | (simp; omega)) (by first | (simp [go_sem]; done) | (simp [go_sem, z01]; done) | exact z01); have z12 : w2.frozen? ⟨w.heap.size + 1 + 1, 1, none⟩ = false := bfrz hb2 (by first | omega | (simp; done) | (simp; omega)) (by first | (simp [go_sem]; done) | (simp [go_sem, z11]; done) | exact z11)))
  have hB : Since w w2 := (by (repeat (first | with_reducible exact Below.refl _ _ | with_reducible assumption | refine Below.alloc ?_ (by (try simp); try omega) _ | refine Below.setCell ?_ (by (try simp); try omega) _ | refine below_drewN ?_ _ | refine Below.drew ?_ | (with_reducible refine Below.trans ?_ (Below.mono (by assumption) (by (try simp); try omega))))) : Below w.heap.size w w2)
  have OR : Own w2 (w.heap.size + 1 + 1) (.int .i64 0) (.int .i64 0) := ⟨r02, r12, z02, z12, hz2⟩
  have s0 : w.heap.size < w2.heap.size := by omega
  have s1 : w.heap.size + 1 < w2.heap.size := by omega
  clear a01 a11 b01 b11 r01 r11 z01 z11 hz1 hb1 hb2 r02 r12 z02 z12 hz2 hr1 hr2
  go_cut [6, 7] from 25 to 42 (fun p q wx => ∃ B C, p = .pointer (some ⟨B, 0, none⟩) ∧ q = .pointer (some ⟨C, 0, none⟩) ∧ A4 wx B (q4 a a b b) ∧ A4 wx C (q4 c d c d) ∧ Own wx (w.heap.size + 1 + 1) (.int .i64 0) (.int .i64 0) ∧ Since w wx)
  case first =>
    go_region_held3 (fun w' => w'.cell? ⟨w.heap.size, 0, none⟩ = some (.int .i64 a) ∧ w'.cell? ⟨w.heap.size, 1, none⟩ = some (.int .i64 b) ∧ w'.cell? ⟨w.heap.size + 1, 0, none⟩ = some (.int .i64 c) ∧ w'.cell? ⟨w.heap.size + 1, 1, none⟩ = some (.int .i64 d))
      ((first | exact ⟨bkeep (w := w2) (by (repeat (first | with_reducible exact Below.refl _ _ | with_reducible assumption | refine Below.alloc ?_ (by (try simp); try omega) _ | refine Below.setCell ?_ (by (try simp); try omega) _ | refine below_drewN ?_ _ | refine Below.drew ?_ | (with_reducible refine Below.trans ?_ (Below.mono (by assumption) (by (try simp); try omega)))))) a02, bkeep (w := w2) (by (repeat (first | with_reducible exact Below.refl _ _ | with_reducible assumption | refine Below.alloc ?_ (by (try simp); try omega) _ | refine Below.setCell ?_ (by (try simp); try omega) _ | refine below_drewN ?_ _ | refine Below.drew ?_ | (with_reducible refine Below.trans ?_ (Below.mono (by assumption) (by (try simp); try omega)))))) a12, bkeep (w := w2) (by (repeat (first | with_reducible exact Below.refl _ _ | with_reducible assumption | refine Below.alloc ?_ (by (try simp); try omega) _ | refine Below.setCell ?_ (by (try simp); try omega) _ | refine below_drewN ?_ _ | refine Below.drew ?_ | (with_reducible refine Below.trans ?_ (Below.mono (by assumption) (by (try simp); try omega)))))) b02, bkeep (w := w2) (by (repeat (first | with_reducible exact Below.refl _ _ | with_reducible assumption | refine Below.alloc ?_ (by (try simp); try omega) _ | refine Below.setCell ?_ (by (try simp); try omega) _ | refine below_drewN ?_ _ | refine Below.drew ?_ | (with_reducible refine Below.trans ?_ (Below.mono (by assumption) (by (try simp); try omega)))))) b12⟩))
      (first | fail)
    · go_wp2
      go_meet
      case rel =>
        have h1 := A4.new w2 a a b b 71
        have h2 := A4.new (w2.alloc (.cells #[.int .i64 a, .int .i64 a, .int .i64 b, .int .i64 b] 71)) c d c d 71
        rw [show ∀ o : Obj, (w2.alloc o).heap.size = w2.heap.size + 1 from fun o => by simp] at h2
        exact ⟨_, _, rfl, rfl, h1.alloc _, h2, ownAlloc (ownAlloc OR), (hB.alloc).alloc.drew⟩
    · go_wp2
      go_meet
      case rel =>
        have h1 := A4.new w2 c d c d 71
        have h2 := A4.new (w2.alloc (.cells #[.int .i64 c, .int .i64 d, .int .i64 c, .int .i64 d] 71)) a a b b 71
        rw [show ∀ o : Obj, (w2.alloc o).heap.size = w2.heap.size + 1 from fun o => by simp] at h2
        exact ⟨_, _, rfl, rfl, h2, h1.alloc _, ownAlloc (ownAlloc OR), (hB.alloc).alloc.drew⟩
  case rest =>
    clear hB OR a02 a12 b02 b12 s0 s1
    obtain ⟨B, C, rfl, rfl, hx, hy, OR, hB⟩ := hcut
    have lB := hx.1
    have lC := hy.1
    have lR := OR.2.2.2.2
    have hfour := fun w => four_any (lim (pq false a c)).1 (lim (pq false a d)).1 (lim (pq false b c)).1 (lim (pq false b d)).1 (lim (pq true a c)).1 (lim (pq true a d)).1 (lim (pq true b c)).1 (lim (pq true b d)).1
      (allF (cok a b c d) 4) w
    rw [show allF (cok a b c d) 4 = (okF (pq false a c) && okF (pq true a c) && (okF (pq false a d) && okF (pq true a d)) && (okF (pq false b c) && okF (pq true b c)) && (okF (pq false b d) && okF (pq true b d))) by
      simp [allF, cok, q4], ← mul_eq a b c d k2] at hfour
    have hall : allF (cok a b c d) 4 = (okF (pq false a c) && okF (pq true a c) && (okF (pq false a d) && okF (pq true a d)) && (okF (pq false b c) && okF (pq true b c)) && (okF (pq false b d) && okF (pq true b d))) := by simp [allF, cok, q4]
    rw [← hall] at hfour
    obtain ⟨m, hm⟩ : ∃ m, sMulR a b c d = m := ⟨_, rfl⟩
    rw [hm] at hfour
    replace hm := Lib.hid hm
    clear hall
    go_wp2
    go_loopw [10, 11] (fun ft i wr => ∃ k : Nat, k ≤ 4 ∧ i = .int .i64 k ∧ ft = .bool (allF (cok a b c d) k) ∧ A4 wr B (q4 a a b b) ∧ A4 wr C (q4 c d c d) ∧ A4 wr wc.heap.size (fun j => if j < k then (lim (pq false (q4 a a b b j) (q4 c d c d j))).1 else 0) ∧ A4 wr (wc.heap.size + 1) (fun j => if j < k then (lim (pq true (q4 a a b b j) (q4 c d c d j))).1 else 0) ∧ Own wr (w.heap.size + 1 + 1) (.int .i64 0) (.int .i64 0) ∧ Since w wr)
      (fun _ i _ => 4 - (intOf i).toNat)
    case atStart =>
      have h1 := (A4.new wc 0 0 0 0 71).congr (y := fun j => if j < 0 then (lim (pq false (q4 a a b b j) (q4 c d c d j))).1 else 0) (fun j hj => by simp [q4])
      have h2 := (A4.new (wc.alloc (.cells #[.int .i64 0, .int .i64 0, .int .i64 0, .int .i64 0] 71)) 0 0 0 0 71).congr (y := fun j => if j < 0 then (lim (pq true (q4 a a b b j) (q4 c d c d j))).1 else 0) (fun j hj => by simp [q4])
      rw [show ∀ o : Obj, (wc.alloc o).heap.size = wc.heap.size + 1 from fun o => by simp] at h2
      exact ⟨0, by omega, rfl, rfl, (hx.alloc _).alloc _, (hy.alloc _).alloc _, h1.alloc _, h2, ownAlloc (ownAlloc OR), (hB.alloc).alloc⟩
    case round =>
      clear hB OR hx hy
      obtain ⟨k, hk, rfl, rfl, hx, hy, hl, hh, OR, hB⟩ := hrel
      by_cases hk4 : k < 4
      · have cx := (hx.2 k hk4).1
        have cy := (hy.2 k hk4).1
        have cl := (hl.2 k hk4).1
        have ch := (hh.2 k hk4).1
        have fl := (hl.2 k hk4).2
        have fh := (hh.2 k hk4).2
        have bx := q4_bd a a b b k vk.1 (by omega) vk.1 (by omega) (by omega) vk.2.2 (by omega) vk.2.2
        have by' := q4_bd c d c d k vk'.1 (by omega) (by omega) vk'.2.2 vk'.1 (by omega) (by omega) vk'.2.2
        have hsx : allF (cok a b c d) (k + 1) = (allF (cok a b c d) k && (okF (pq false (q4 a a b b k) (q4 c d c d k)) && okF (pq true (q4 a a b b k) (q4 c d c d k)))) := rfl
        have hm1 := fun w => refMul_q (q4 a a b b k) (q4 c d c d k) false w bx.1 bx.2 by'.1 by'.2
        have hm2 := fun w => refMul_q (q4 a a b b k) (q4 c d c d k) true w bx.1 bx.2 by'.1 by'.2
        obtain ⟨x, ex⟩ : ∃ x, q4 a a b b k = x := ⟨_, rfl⟩
        obtain ⟨y, ey⟩ : ∃ y, q4 c d c d k = y := ⟨_, rfl⟩
        rw [ex] at cx
        rw [ey] at cy
        rw [ex, ey] at hsx hm1 hm2
        obtain ⟨L, eL⟩ : ∃ L, (lim (pq false x y)).1 = L := ⟨_, rfl⟩
        obtain ⟨H, eH⟩ : ∃ H, (lim (pq true x y)).1 = H := ⟨_, rfl⟩
        obtain ⟨p, ep⟩ : ∃ p, okF (pq false x y) = p := ⟨_, rfl⟩
        obtain ⟨q, eq⟩ : ∃ q, okF (pq true x y) = q := ⟨_, rfl⟩
        rw [eL, ep] at hm1
        rw [eH, eq] at hm2
        rw [ep, eq] at hsx
        obtain ⟨F, eF⟩ : ∃ F, allF (cok a b c d) k = F := ⟨_, rfl⟩
        rw [eF] at hsx ⊢
        have eLk : Hid ((lim (pq false (q4 a a b b k) (q4 c d c d k))).1 = L) := Lib.hid (by rw [ex, ey, eL])
        have eHk : Hid ((lim (pq true (q4 a a b b k) (q4 c d c d k))).1 = H) := Lib.hid (by rw [ex, ey, eH])
        replace ex := Lib.hid ex
        replace ey := Lib.hid ey
        replace eL := Lib.hid eL
        replace eH := Lib.hid eH
        replace hsx := Lib.hid hsx
        clear eF ep eq bx by' hfour
        simp only [Nat.lt_irrefl, if_false] at cl ch
        cases F <;> cases p
        all_goals
          go_wp2
          go_quiet ((go_at_call 48; exact Calls.quiet_of_same (hm1 _)))
          replace hx := hx.drewN nq
          replace hy := hy.drewN nq
          replace hl := hl.drewN nq
          replace hh := hh.drewN nq
          replace OR : Own (wr.drewN nq) _ _ _ := OR
          replace hB : Since w (wr.drewN nq) := below_drewN hB.out nq
          replace cx : (wr.drewN nq).cell? ⟨B, k, none⟩ = _ := cx
          replace cy : (wr.drewN nq).cell? ⟨C, k, none⟩ = _ := cy
          replace cl : (wr.drewN nq).cell? ⟨wc.heap.size, k, none⟩ = _ := cl
          replace ch : (wr.drewN nq).cell? ⟨wc.heap.size + 1, k, none⟩ = _ := ch
          replace fl : (wr.drewN nq).frozen? ⟨wc.heap.size, k, none⟩ = _ := fl
          replace fh : (wr.drewN nq).frozen? ⟨wc.heap.size + 1, k, none⟩ = _ := fh
          generalize wr.drewN nq = v1 at *
          go_wp2
          go_quiet ((go_at_call 48; exact Calls.quiet_of_same (hm2 _)))
          go_wp2
        all_goals
          go_roundw
          case rel =>
            exact ⟨k + 1, by omega, by simp, by rw [hsx.out]; simp, ((hx.drewN nq).far _ _ _ (by omega)).far _ _ _ (by omega), ((hy.drewN nq).far _ _ _ (by omega)).far _ _ _ (by omega),
              ((((hl.drewN nq).set k hk4 L).far _ _ _ (by omega)).congr (fun j _ => step_fn (fun j => (lim (pq false (q4 a a b b j) (q4 c d c d j))).1) k L eLk.out j)),
              ((((hh.drewN nq).far _ _ _ (by omega)).set k hk4 H).congr (fun j _ => step_fn (fun j => (lim (pq true (q4 a a b b j) (q4 c d c d j))).1) k H eHk.out j)),
              Own.far1 (Own.far1 (show Own (v1.drewN nq) _ _ _ from OR) (by omega)) (by omega), Below.setCell (Below.setCell (below_drewN hB.out nq) (by show _ ≤ _; dsimp only; omega) _) (by show _ ≤ _; dsimp only; omega) _⟩
          case measure => simp [intOf]; omega
      · have h4 : k = 4 := by omega
        subst h4
        have l0 := (hl.2 0 (by omega)).1
        have l1 := (hl.2 1 (by omega)).1
        have l2 := (hl.2 2 (by omega)).1
        have l3 := (hl.2 3 (by omega)).1
        have h0 := (hh.2 0 (by omega)).1
        have h1 := (hh.2 1 (by omega)).1
        have h2 := (hh.2 2 (by omega)).1
        have h3 := (hh.2 3 (by omega)).1
        simp [q4] at l0 l1 l2 l3 h0 h1 h2 h3
        generalize (lim (pq false a c)).1 = x0 at *
        generalize (lim (pq false a d)).1 = x1 at *
        generalize (lim (pq false b c)).1 = x2 at *
        generalize (lim (pq false b d)).1 = x3 at *
        generalize (lim (pq true a c)).1 = y0 at *
        generalize (lim (pq true a d)).1 = y1 at *
        generalize (lim (pq true b c)).1 = y2 at *
        generalize (lim (pq true b d)).1 = y3 at *
        generalize allF (cok a b c d) 4 = F at *
        clear hl hh hx hy
        go_wp2_with (go_at_call 49; refine (hfour _).mono ?_; rintro e w5 ⟨rfl, hb5⟩; have OR' := ownKeep hb5 OR; have r0' := OR'.1; have r1' := OR'.2.1; have z0' := OR'.2.2.1; have z1' := OR'.2.2.2.1; replace hB := hB.step hb5; clear hb5)
        exact bodyPost_ret (v := .tuple #[.agg #[.int .i64 (m.1), .int .i64 (m.2.1)], .int .i64 (m.2.2)]) (by simp [results, Try.results31, go_sem, r0', r1']) rfl ⟨by rw [hm.out], Below.setCell (Below.setCell hB.out (by show _ ≤ _; dsimp only; omega) _) (by show _ ≤ _; dsimp only; omega) _⟩

set_option maxHeartbeats 1000000 in
theorem rMul_any (a b c d : Int) (w : World) :
    Calls Try.prog 31 #[.agg #[.int .i64 a, .int .i64 b], .agg #[.int .i64 c, .int .i64 d]] w fun e w' => e = .returned (.tuple #[.agg #[.int .i64 (sMulR a b c d).1, .int .i64 (sMulR a b c d).2.1], .int .i64 (sMulR a b c d).2.2]) ∧ Below w.heap.size w w' := by
  rcases ckS_cases a b with ⟨k, h0, h1, h2⟩ | ⟨k, k0⟩
  · rcases ckS_cases c d with ⟨k', h3, h4, h5⟩ | ⟨k', k0⟩
    · exact rMul_in a b c d w k k'
    · have hr1 := rRight_ok a b k
      have hr2 := rRight_no c d k'
      rw [show sMulR a b c d = (0, 0, 20) by unfold sMulR ck2S; rw [if_pos k, if_neg (by omega)]]
      clear k k' k0
      go_enter Try.func31, Try.ntmps31
      go_wp2_with (first | (go_at_call 46; (with_reducible refine (hr1 _).mono ?_); rintro e w1 ⟨rfl, hb1⟩; (with_reducible (first | (replace hb1 := undrewW hb1) | skip)); have hz1 : w.heap.size + 1 + 1 < w1.heap.size := (by have := hb1.size; (try simp at this); omega); have a01 : w1.cell? ⟨w.heap.size, 0, none⟩ = some (.int .i64 a) := bkeep hb1 (by first | (simp [go_sem]; done)); have a11 : w1.cell? ⟨w.heap.size, 1, none⟩ = some (.int .i64 b) := bkeep hb1 (by first | (simp [go_sem]; done)); have b01 : w1.cell? ⟨w.heap.size + 1, 0, none⟩ = some (.int .i64 c) := bkeep hb1 (by first | (simp [go_sem]; done)); have b11 : w1.cell? ⟨w.heap.size + 1, 1, none⟩ = some (.int .i64 d) := bkeep hb1 (by first | (simp [go_sem]; done)); have r01 : w1.cell? ⟨w.heap.size + 1 + 1, 0, none⟩ = some (.int .i64 0) := bkeep hb1 (by first | (simp [go_sem]; done)); have r11 : w1.cell? ⟨w.heap.size + 1 + 1, 1, none⟩ = some (.int .i64 0) := bkeep hb1 (by first | (simp [go_sem]; done)); have z01 : w1.frozen? ⟨w.heap.size + 1 + 1, 0, none⟩ = false := bfrz hb1 (by first | omega | (simp; done) | (simp; omega)) (by first | (simp [go_sem]; done)); have z11 : w1.frozen? ⟨w.heap.size + 1 + 1, 1, none⟩ = false := bfrz hb1 (by first | omega | (simp; done) | (simp; omega)) (by first | (simp [go_sem]; done))) | (go_at_call 46; (with_reducible refine (hr2 _).mono ?_); rintro e w2 ⟨rfl, hb2⟩; (with_reducible (first | (replace hb2 := undrewW hb2) | skip)); have hz2 : w.heap.size + 1 + 1 < w2.heap.size := (by have := hb2.size; (try simp at this); omega); have a02 : w2.cell? ⟨w.heap.size, 0, none⟩ = some (.int .i64 a) := bkeep hb2 (by first | (simp [go_sem]; done) | (simp [go_sem, a01]; done) | exact a01); have a12 : w2.cell? ⟨w.heap.size, 1, none⟩ = some (.int .i64 b) := bkeep hb2 (by first | (simp [go_sem]; done) | (simp [go_sem, a11]; done) | exact a11); have b02 : w2.cell? ⟨w.heap.size + 1, 0, none⟩ = some (.int .i64 c) := bkeep hb2 (by first | (simp [go_sem]; done) | (simp [go_sem, b01]; done) | exact b01); have b12 : w2.cell? ⟨w.heap.size + 1, 1, none⟩ = some (.int .i64 d) := bkeep hb2 (by first | (simp [go_sem]; done) | (simp [go_sem, b11]; done) | exact b11); have r02 : w2.cell? ⟨w.heap.size + 1 + 1, 0, none⟩ = some (.int .i64 0) := bkeep hb2 (by first | (simp [go_sem]; done) | (simp [go_sem, r01]; done) | exact r01); have r12 : w2.cell? ⟨w.heap.size + 1 + 1, 1, none⟩ = some (.int .i64 0) := bkeep hb2 (by first | (simp [go_sem]; done) | (simp [go_sem, r11]; done) | exact r11); have z02 : w2.frozen? ⟨w.heap.size + 1 + 1, 0, none⟩ = false := bfrz hb2 (by first | omega | (simp; done) | (simp; omega)) (by first | (simp [go_sem]; done) | (simp [go_sem, z01]; done) | exact z01); have z12 : w2.frozen? ⟨w.heap.size + 1 + 1, 1, none⟩ = false := bfrz hb2 (by first | omega | (simp; done) | (simp; omega)) (by first | (simp [go_sem]; done) | (simp [go_sem, z11]; done) | exact z11)))
      exact bodyPost_ret (v := .tuple #[.agg #[.int .i64 (((0, 0, 20) : Int × Int × Int).1), .int .i64 (((0, 0, 20) : Int × Int × Int).2.1)], .int .i64 (((0, 0, 20) : Int × Int × Int).2.2)]) (by simp [results, Try.results31, go_sem, r02, r12]) rfl ⟨rfl, by (repeat (first | with_reducible exact Below.refl _ _ | with_reducible assumption | refine Below.alloc ?_ (by (try simp); try omega) _ | refine Below.setCell ?_ (by (try simp); try omega) _ | refine below_drewN ?_ _ | refine Below.drew ?_ | (with_reducible refine Below.trans ?_ (Below.mono (by assumption) (by (try simp); try omega)))))⟩
  · have hr1 := rRight_no a b k
    rw [show sMulR a b c d = (0, 0, 20) by unfold sMulR ck2S; rw [if_neg (by split <;> omega)]]
    clear k k0
    go_enter Try.func31, Try.ntmps31
    go_wp2_with (go_at_call 46; (with_reducible refine (hr1 _).mono ?_); rintro e w1 ⟨rfl, hb1⟩; (with_reducible (first | (replace hb1 := undrewW hb1) | skip)); have hz1 : w.heap.size + 1 + 1 < w1.heap.size := (by have := hb1.size; (try simp at this); omega); have a01 : w1.cell? ⟨w.heap.size, 0, none⟩ = some (.int .i64 a) := bkeep hb1 (by first | (simp [go_sem]; done)); have a11 : w1.cell? ⟨w.heap.size, 1, none⟩ = some (.int .i64 b) := bkeep hb1 (by first | (simp [go_sem]; done)); have b01 : w1.cell? ⟨w.heap.size + 1, 0, none⟩ = some (.int .i64 c) := bkeep hb1 (by first | (simp [go_sem]; done)); have b11 : w1.cell? ⟨w.heap.size + 1, 1, none⟩ = some (.int .i64 d) := bkeep hb1 (by first | (simp [go_sem]; done)); have r01 : w1.cell? ⟨w.heap.size + 1 + 1, 0, none⟩ = some (.int .i64 0) := bkeep hb1 (by first | (simp [go_sem]; done)); have r11 : w1.cell? ⟨w.heap.size + 1 + 1, 1, none⟩ = some (.int .i64 0) := bkeep hb1 (by first | (simp [go_sem]; done)); have z01 : w1.frozen? ⟨w.heap.size + 1 + 1, 0, none⟩ = false := bfrz hb1 (by first | omega | (simp; done) | (simp; omega)) (by first | (simp [go_sem]; done)); have z11 : w1.frozen? ⟨w.heap.size + 1 + 1, 1, none⟩ = false := bfrz hb1 (by first | omega | (simp; done) | (simp; omega)) (by first | (simp [go_sem]; done)))
    exact bodyPost_ret (v := .tuple #[.agg #[.int .i64 (((0, 0, 20) : Int × Int × Int).1), .int .i64 (((0, 0, 20) : Int × Int × Int).2.1)], .int .i64 (((0, 0, 20) : Int × Int × Int).2.2)]) (by simp [results, Try.results31, go_sem, r01, r11]) rfl ⟨rfl, by (repeat (first | with_reducible exact Below.refl _ _ | with_reducible assumption | refine Below.alloc ?_ (by (try simp); try omega) _ | refine Below.setCell ?_ (by (try simp); try omega) _ | refine below_drewN ?_ _ | refine Below.drew ?_ | (with_reducible refine Below.trans ?_ (Below.mono (by assumption) (by (try simp); try omega)))))⟩
end Go.Proofs.Ytdaignklmbmcnaa
