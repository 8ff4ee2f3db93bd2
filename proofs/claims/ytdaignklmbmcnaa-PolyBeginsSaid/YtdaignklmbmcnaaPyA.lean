/-
  Package poly: slices of intervals; walks of check and backward.
-/
import Derived.Test.YtdaignklmbmcnaaPyM
import Derived.LoopN
namespace Go.Proofs.Ytdaignklmbmcnaa
open Go.RowKit

/-- The slice value v holds the intervals l. -/
def Sn (w : World) (v : Value) (l : List (Int × Int)) : Prop :=
  ∃ a cap, v = .slice a l.length cap ∧ (l.length ≤ cap ∧ (a = none → cap = 0)) ∧ (0 < l.length → ∃ b off, a = some ⟨b, off, none⟩ ∧ ∀ i, i < l.length → w.cell? ⟨b, off + i * 2, none⟩ = some (.int .i64 (pf l i).1) ∧ w.cell? ⟨b, off + i * 2 + 1, none⟩ = some (.int .i64 (pf l i).2))
theorem Sn.keep {w w' : World} {v : Value} {l : List (Int × Int)} (h : Sn w v l) (hb : Below w.heap.size w w') : Sn w' v l := by
  obtain ⟨a, cap, rfl, hl, hc⟩ := h
  refine ⟨a, cap, rfl, hl, fun hi => ?_⟩
  obtain ⟨b, off, rfl, h⟩ := hc hi
  exact ⟨b, off, rfl, fun i hi => ⟨bkeep hb (h i hi).1, bkeep hb (h i hi).2⟩⟩
theorem Sn.nil (w : World) : Sn w (.slice none 0 0) [] := ⟨none, 0, rfl, ⟨Nat.le_refl _, fun _ => rfl⟩, fun h => absurd h (by simp)⟩

theorem keepAl {w w1 : World} {o : Obj} {p : Addr} {v : Value} (h : w.cell? p = some v) (hb : Below (w.alloc o).heap.size (w.alloc o) w1) : w1.cell? p = some v :=
  bkeep hb (bkeep ((Below.refl _ _).alloc (Nat.le_refl _) _) h)
theorem frzAl {w w1 : World} {o : Obj} {b k : Nat} (hl : b < w.heap.size) (h : w.frozen? ⟨b, k, none⟩ = false) (hb : Below (w.alloc o).heap.size (w.alloc o) w1) : w1.frozen? ⟨b, k, none⟩ = false :=
  bfrz hb (by simp; omega) (bfrz ((Below.refl _ _).alloc (Nat.le_refl _) _) hl h)
set_option maxHeartbeats 1000000 in
theorem pCheck_any (va : Value) (l : List (Int × Int)) (x y : Int) (w : World) (ha : Sn w va l) :
    Calls Try.prog 28 #[va, .agg #[.int .i64 x, .int .i64 y]] w fun e w' => e = .returned (.int .i64 (ckL l x y)) ∧ Below w.heap.size w w' := by
  have hcs := fun w => sCheck_any x y w
  by_cases h8 : 8 < l.length
  · have H := Lib.hid (ckL_long x y h8)
    obtain ⟨pa, ca, rfl, _, _⟩ := ha
    have h8' : decide ((8 : Int) < (l.length : Int)) = true := by simp; omega
    go_enter Try.func28, Try.ntmps28
    go_wp2
    go_ret
    exact ⟨by rw [H.out]; rfl, by (repeat (first | with_reducible exact Below.refl _ _ | with_reducible assumption | refine Below.alloc ?_ (by (try simp); try omega) _ | refine Below.setCell ?_ (by (try simp); try omega) _ | refine below_drewN ?_ _ | refine Below.drew ?_ | (with_reducible refine Below.trans ?_ (Below.mono (by assumption) (by (try simp); try omega)))))⟩
  have hbad := fun i hi k => Lib.hid (ckL_bad (l := l) (i := i) x y (by omega) hi k)
  have hgood := fun k => Lib.hid (ckL_ok (l := l) x y (by omega) k)
  obtain ⟨pa, ca, rfl, _, hpa⟩ := ha
  obtain ⟨n, hn⟩ : ∃ n, l.length = n := ⟨_, rfl⟩
  rw [hn] at hpa hbad h8 ⊢
  have Hn := Lib.hid hn
  clear hn
  have h8' : decide ((8 : Int) < (n : Int)) = false := by simp; omega
  go_enter Try.func28, Try.ntmps28
  go_wp2
  go_loopw [13] (fun i wr => ∃ (k : Nat), i = .int .i64 k ∧ k ≤ n ∧ (∀ j, j < k → ckS (pf l j).1 (pf l j).2 = 0) ∧ Below w.heap.size w wr ∧ w.heap.size < wr.heap.size ∧ wr.cell? ⟨w.heap.size, 0, none⟩ = some (.int .i64 x) ∧ wr.cell? ⟨w.heap.size, 1, none⟩ = some (.int .i64 y))
    (fun i _ => n - (intOf i).toNat)
  case atStart => exact ⟨0, rfl, Nat.zero_le _, fun j hj => by omega, by (repeat (first | with_reducible exact Below.refl _ _ | with_reducible assumption | refine Below.alloc ?_ (by (try simp); try omega) _ | refine Below.setCell ?_ (by (try simp); try omega) _ | refine below_drewN ?_ _ | refine Below.drew ?_ | (with_reducible refine Below.trans ?_ (Below.mono (by assumption) (by (try simp); try omega))))), by simp, by simp, by simp⟩
  case round =>
    obtain ⟨k, rfl, hk, hj, hB, hz, hx, hy⟩ := hrel
    by_cases hk' : k < n
    · obtain ⟨ba, oa, rfl, hca⟩ := hpa (by omega)
      obtain ⟨hc0, hc1⟩ := hca k hk'
      replace hc0 := bkeep hB hc0
      replace hc1 := bkeep hB hc1
      have hck := fun w => sCheck_any (pf l k).1 (pf l k).2 w
      have hb := hbad k hk'
      clear hbad hgood hpa hca
      rcases ckS_cases (pf l k).1 (pf l k).2 with ⟨e, _⟩ | ⟨e, _⟩
      · rw [e] at hck
        have hj' : ∀ j, j < k + 1 → ckS (pf l j).1 (pf l j).2 = 0 := fun j hj' => by
          rcases Nat.lt_or_ge j k with h | h
          · exact hj j h
          · rw [show j = k by omega]; exact e
        clear e hb hj
        generalize (pf l k).1 = c0 at *
        generalize (pf l k).2 = c1 at *
        go_wp2_with (go_at_call 42; refine (hck _).mono ?_; rintro e w1 ⟨rfl, hb1⟩; have hx1 := keepAl hx hb1; have hy1 := keepAl hy hb1; have hz1 := hb1.size)
        simp at hz1
        go_roundw
        case rel =>
          exact ⟨k + 1, by simp, by omega, hj', by (repeat (first | with_reducible exact Below.refl _ _ | with_reducible assumption | refine Below.alloc ?_ (by (try simp); try omega) _ | refine Below.setCell ?_ (by (try simp); try omega) _ | refine below_drewN ?_ _ | refine Below.drew ?_ | (with_reducible refine Below.trans ?_ (Below.mono (by assumption) (by (try simp); try omega))))), by omega, hx1, hy1⟩
        case measure => simp [intOf]; omega
      · replace hb := hb e
        rw [e] at hck
        clear e
        generalize (pf l k).1 = c0 at *
        generalize (pf l k).2 = c1 at *
        go_wp2_with (go_at_call 42; refine (hck _).mono ?_; rintro e w1 ⟨rfl, hb1⟩)
        go_ret
        exact ⟨by rw [hb.out]; rfl, by (repeat (first | with_reducible exact Below.refl _ _ | with_reducible assumption | refine Below.alloc ?_ (by (try simp); try omega) _ | refine Below.setCell ?_ (by (try simp); try omega) _ | refine below_drewN ?_ _ | refine Below.drew ?_ | (with_reducible refine Below.trans ?_ (Below.mono (by assumption) (by (try simp); try omega)))))⟩
    · have hkn : k = n := by omega
      subst hkn
      have H := hgood (ok_of fun j hj' => hj j (by rw [Hn.out] at hj'; exact hj'))
      clear hgood hbad hj hpa
      go_wp2_with (go_at_call 42; refine (hcs _).mono ?_; rintro e w1 ⟨rfl, hb1⟩)
      go_ret
      exact ⟨by rw [H.out]; rfl, by (repeat (first | with_reducible exact Below.refl _ _ | with_reducible assumption | refine Below.alloc ?_ (by (try simp); try omega) _ | refine Below.setCell ?_ (by (try simp); try omega) _ | refine below_drewN ?_ _ | refine Below.drew ?_ | (with_reducible refine Below.trans ?_ (Below.mono (by assumption) (by (try simp); try omega)))))⟩

/-- The iterator over the intervals from the last one on. -/
theorem backward_any (a : Option Addr) (len cap : Nat) (w : World) :
    Calls Try.prog 44 #[.slice a len cap] w fun e w' => e = .returned (.func (.func 58) #[] #[.pointer (some ⟨w.heap.size, 0, none⟩)]) ∧ w' = w.alloc (.cells #[.slice a len cap] 22) := by
  have hmf : ∀ (fn : Fn) (first cap : Array Value) (w : World), (Instr.makeFunc fn first cap).run Try.prog w = .ok (.func fn first cap) w := fun _ _ _ _ => rfl
  go_enter Try.func44, Try.ntmps44
  go_wp2
  go_ret
  exact ⟨rfl, rfl⟩

/-- The closure that extends the value: by Mul. -/
theorem extMul_any (a b c d : Int) (pv pe : Nat) (z : Bool) (r0 r1 r2 : Int) (w : World) (hne : pv ≠ pe) (c0 : w.cell? ⟨pv, 0, none⟩ = some (.int .i64 a)) (c1 : w.cell? ⟨pv, 1, none⟩ = some (.int .i64 b)) (c2 : w.cell? ⟨pe, 0, none⟩ = some (.int .i64 0))
    (f0 : w.frozen? ⟨pv, 0, none⟩ = false) (f1 : w.frozen? ⟨pv, 1, none⟩ = false) (f2 : w.frozen? ⟨pe, 0, none⟩ = false) (hr : sMulR a b c d = (r0, r1, r2)) (hz : (r2 == 0) = z) :
    Calls Try.prog 43 #[.func (.func 21) #[] #[], .agg #[.int .i64 c, .int .i64 d], .pointer (some ⟨pv, 0, none⟩), .pointer (some ⟨pe, 0, none⟩)] w fun e w' => e = .returned (.bool z) ∧
      ∃ w1, Below w.heap.size w w1 ∧ w.heap.size < w1.heap.size ∧ w' = ((w1.setCell ⟨pv, 0, none⟩ (.int .i64 r0)).setCell ⟨pv, 1, none⟩ (.int .i64 r1)).setCell ⟨pe, 0, none⟩ (.int .i64 r2) := by
  have hop := fun w => sMul_any a b c d w
  rw [hr] at hop
  clear hr
  have l1 := World.block_lt_of_cell? w _ c0
  have l2 := World.block_lt_of_cell? w _ c2
  simp at l1 l2
  have n1 : w.heap.size ≠ pv := by omega
  have n2 : w.heap.size ≠ pe := by omega
  have d0 := bkeep ((Below.refl w.heap.size w).alloc (Nat.le_refl _) (.cells #[.int .i64 c, .int .i64 d] 24)) c0
  have d1 := bkeep ((Below.refl w.heap.size w).alloc (Nat.le_refl _) (.cells #[.int .i64 c, .int .i64 d] 24)) c1
  go_enter Try.func43, Try.ntmps43
  go_wp2_with (go_at_call 21; refine (hop _).mono ?_; rintro e w1 ⟨rfl, hb1⟩; have e0 := keepAl c0 hb1; have e1 := keepAl c1 hb1; have e2 := keepAl c2 hb1; have g0 := frzAl l1 f0 hb1; have g1 := frzAl l1 f1 hb1; have g2 := frzAl l2 f2 hb1; have hz1 := hb1.size)
  go_ret
  simp at hz1
  exact ⟨rfl, w1, by (repeat (first | with_reducible exact Below.refl _ _ | with_reducible assumption | refine Below.alloc ?_ (by (try simp); try omega) _ | refine Below.setCell ?_ (by (try simp); try omega) _ | refine below_drewN ?_ _ | refine Below.drew ?_ | (with_reducible refine Below.trans ?_ (Below.mono (by assumption) (by (try simp); try omega))))), by omega, rfl⟩
/-- The closure that extends the value: by Add. -/
theorem extAdd_any (a b c d : Int) (pv pe : Nat) (z : Bool) (r0 r1 r2 : Int) (w : World) (hne : pv ≠ pe) (c0 : w.cell? ⟨pv, 0, none⟩ = some (.int .i64 a)) (c1 : w.cell? ⟨pv, 1, none⟩ = some (.int .i64 b)) (c2 : w.cell? ⟨pe, 0, none⟩ = some (.int .i64 0))
    (f0 : w.frozen? ⟨pv, 0, none⟩ = false) (f1 : w.frozen? ⟨pv, 1, none⟩ = false) (f2 : w.frozen? ⟨pe, 0, none⟩ = false) (hr : sAddR a b c d = (r0, r1, r2)) (hz : (r2 == 0) = z) :
    Calls Try.prog 43 #[.func (.func 45) #[] #[], .agg #[.int .i64 c, .int .i64 d], .pointer (some ⟨pv, 0, none⟩), .pointer (some ⟨pe, 0, none⟩)] w fun e w' => e = .returned (.bool z) ∧
      ∃ w1, Below w.heap.size w w1 ∧ w.heap.size < w1.heap.size ∧ w' = ((w1.setCell ⟨pv, 0, none⟩ (.int .i64 r0)).setCell ⟨pv, 1, none⟩ (.int .i64 r1)).setCell ⟨pe, 0, none⟩ (.int .i64 r2) := by
  have hop := fun w => sAdd_any a b c d w
  rw [hr] at hop
  clear hr
  have l1 := World.block_lt_of_cell? w _ c0
  have l2 := World.block_lt_of_cell? w _ c2
  simp at l1 l2
  have n1 : w.heap.size ≠ pv := by omega
  have n2 : w.heap.size ≠ pe := by omega
  have d0 := bkeep ((Below.refl w.heap.size w).alloc (Nat.le_refl _) (.cells #[.int .i64 c, .int .i64 d] 24)) c0
  have d1 := bkeep ((Below.refl w.heap.size w).alloc (Nat.le_refl _) (.cells #[.int .i64 c, .int .i64 d] 24)) c1
  go_enter Try.func43, Try.ntmps43
  go_wp2_with (go_at_call 45; refine (hop _).mono ?_; rintro e w1 ⟨rfl, hb1⟩; have e0 := keepAl c0 hb1; have e1 := keepAl c1 hb1; have e2 := keepAl c2 hb1; have g0 := frzAl l1 f0 hb1; have g1 := frzAl l1 f1 hb1; have g2 := frzAl l2 f2 hb1; have hz1 := hb1.size)
  go_ret
  simp at hz1
  exact ⟨rfl, w1, by (repeat (first | with_reducible exact Below.refl _ _ | with_reducible assumption | refine Below.alloc ?_ (by (try simp); try omega) _ | refine Below.setCell ?_ (by (try simp); try omega) _ | refine below_drewN ?_ _ | refine Below.drew ?_ | (with_reducible refine Below.trans ?_ (Below.mono (by assumption) (by (try simp); try omega))))), by omega, rfl⟩
end Go.Proofs.Ytdaignklmbmcnaa
