/-
  Package span: what the functions give, as plain functions on integers; walks of Check, Of, Point, limited, holds, magnitudes, checkAll.
-/
import Derived.Test.YtdaignklmbmcnaaFixE
import Derived.LoopN
namespace Go.Proofs.Ytdaignklmbmcnaa
open Go.RowKit

theorem bfrz {w w' : World} {b o : Nat} (hb : Below w.heap.size w w') (hl : b < w.heap.size) (h : w.frozen? ⟨b, o, none⟩ = false) : w'.frozen? ⟨b, o, none⟩ = false :=
  (hb.frozen (p := ⟨b, o, none⟩) hl).trans h
def ckS (l h : Int) : Int := if l < -4503599627370496 ∨ h < l ∨ 4503599627370496 < h then 20 else 0
theorem ckS_ok {l h : Int} (h0 : -4503599627370496 ≤ l) (h1 : l ≤ h) (h2 : h ≤ 4503599627370496) : ckS l h = 0 := by
  unfold ckS; rw [if_neg (by omega)]
theorem ckS_no {l h : Int} (h0 : l < -4503599627370496 ∨ h < l ∨ 4503599627370496 < h) : ckS l h = 20 := by
  unfold ckS; rw [if_pos h0]
theorem ckS_cases (l h : Int) : ckS l h = 0 ∧ -4503599627370496 ≤ l ∧ l ≤ h ∧ h ≤ 4503599627370496 ∨ ckS l h = 20 ∧ (l < -4503599627370496 ∨ h < l ∨ 4503599627370496 < h) := by
  unfold ckS; split <;> omega

theorem sCheck_any (l h : Int) (w : World) :
    Calls Try.prog 42 #[.agg #[.int .i64 l, .int .i64 h]] w fun e w' => e = .returned (.int .i64 (ckS l h)) ∧ Below w.heap.size w w' := by
  by_cases h0 : l < -4503599627370496
  · rw [ckS_no (Or.inl h0)]
    go_enter Try.func42, Try.ntmps42
    go_wp2
    go_ret
    exact ⟨rfl, by (repeat (first | with_reducible exact Below.refl _ _ | with_reducible assumption | refine Below.alloc ?_ (by (try simp); try omega) _ | refine Below.setCell ?_ (by (try simp); try omega) _ | refine below_drewN ?_ _ | refine Below.drew ?_ | (with_reducible refine Below.trans ?_ (Below.mono (by assumption) (by (try simp); try omega)))))⟩
  by_cases h1 : h < l
  · rw [ckS_no (Or.inr (Or.inl h1))]
    go_enter Try.func42, Try.ntmps42
    go_wp2
    go_ret
    exact ⟨rfl, by (repeat (first | with_reducible exact Below.refl _ _ | with_reducible assumption | refine Below.alloc ?_ (by (try simp); try omega) _ | refine Below.setCell ?_ (by (try simp); try omega) _ | refine below_drewN ?_ _ | refine Below.drew ?_ | (with_reducible refine Below.trans ?_ (Below.mono (by assumption) (by (try simp); try omega)))))⟩
  by_cases h2 : 4503599627370496 < h
  · rw [ckS_no (Or.inr (Or.inr h2))]
    go_enter Try.func42, Try.ntmps42
    go_wp2
    go_ret
    exact ⟨rfl, by (repeat (first | with_reducible exact Below.refl _ _ | with_reducible assumption | refine Below.alloc ?_ (by (try simp); try omega) _ | refine Below.setCell ?_ (by (try simp); try omega) _ | refine below_drewN ?_ _ | refine Below.drew ?_ | (with_reducible refine Below.trans ?_ (Below.mono (by assumption) (by (try simp); try omega)))))⟩
  rw [ckS_ok (by omega) (by omega) (by omega)]
  go_enter Try.func42, Try.ntmps42
  go_wp2
  go_ret
  exact ⟨rfl, by (repeat (first | with_reducible exact Below.refl _ _ | with_reducible assumption | refine Below.alloc ?_ (by (try simp); try omega) _ | refine Below.setCell ?_ (by (try simp); try omega) _ | refine below_drewN ?_ _ | refine Below.drew ?_ | (with_reducible refine Below.trans ?_ (Below.mono (by assumption) (by (try simp); try omega)))))⟩

/-- An interval and an error, as a call returns them. -/
abbrev spV (r : Int × Int × Int) : Value := .tuple #[.agg #[.int .i64 r.1, .int .i64 r.2.1], .int .i64 r.2.2]
def ofR (l h : Int) : Int × Int × Int := if ckS l h = 0 then (l, h, 0) else (0, 0, 20)
def limS (l h : Int) : Int × Int × Int := if ckS l h = 0 then (l, h, 0) else (0, 0, 6)

theorem sOf_any (l h : Int) (w : World) :
    Calls Try.prog 54 #[.int .i64 l, .int .i64 h] w fun e w' => e = .returned (.tuple #[.agg #[.int .i64 (ofR l h).1, .int .i64 (ofR l h).2.1], .int .i64 (ofR l h).2.2]) ∧ Below w.heap.size w w' := by
  have hc := fun w => sCheck_any l h w
  rcases ckS_cases l h with ⟨e, h0, h1, h2⟩ | ⟨e, h0⟩
  · rw [show ofR l h = (l, h, 0) by unfold ofR; rw [if_pos e]]
    rw [e] at hc; clear e
    go_enter Try.func54, Try.ntmps54
    go_wp2_with (go_at_call 42; refine (hc _).mono ?_; rintro e w1 ⟨rfl, hb1⟩; obtain ⟨hc1, hf1⟩ := bcell hb1; have hz1 : w.heap.size + 1 < w1.heap.size := (by have := hb1.size; (try simp at this); omega); have r0 : w1.cell? ⟨w.heap.size, 0, none⟩ = some (.int .i64 0) := bkeep hb1 (by simp); have r1 : w1.cell? ⟨w.heap.size, 1, none⟩ = some (.int .i64 0) := bkeep hb1 (by simp))
    exact bodyPost_ret (v := .tuple #[.agg #[.int .i64 l, .int .i64 h], .int .i64 0]) (by simp [results, Try.results54, go_sem, r0, r1]) rfl ⟨rfl, by (repeat (first | with_reducible exact Below.refl _ _ | with_reducible assumption | refine Below.alloc ?_ (by (try simp); try omega) _ | refine Below.setCell ?_ (by (try simp); try omega) _ | refine below_drewN ?_ _ | refine Below.drew ?_ | (with_reducible refine Below.trans ?_ (Below.mono (by assumption) (by (try simp); try omega)))))⟩
  · rw [show ofR l h = (0, 0, 20) by unfold ofR; rw [if_neg (by omega)]]
    rw [e] at hc; clear e
    go_enter Try.func54, Try.ntmps54
    go_wp2_with (go_at_call 42; refine (hc _).mono ?_; rintro e w1 ⟨rfl, hb1⟩; obtain ⟨hc1, hf1⟩ := bcell hb1; have hz1 : w.heap.size + 1 < w1.heap.size := (by have := hb1.size; (try simp at this); omega); have r0 : w1.cell? ⟨w.heap.size, 0, none⟩ = some (.int .i64 0) := bkeep hb1 (by simp); have r1 : w1.cell? ⟨w.heap.size, 1, none⟩ = some (.int .i64 0) := bkeep hb1 (by simp))
    exact bodyPost_ret (v := .tuple #[.agg #[.int .i64 0, .int .i64 0], .int .i64 20]) (by simp [results, Try.results54, go_sem, r0, r1]) rfl ⟨rfl, by (repeat (first | with_reducible exact Below.refl _ _ | with_reducible assumption | refine Below.alloc ?_ (by (try simp); try omega) _ | refine Below.setCell ?_ (by (try simp); try omega) _ | refine below_drewN ?_ _ | refine Below.drew ?_ | (with_reducible refine Below.trans ?_ (Below.mono (by assumption) (by (try simp); try omega)))))⟩

def ck2S (a b c d : Int) : Int := if ckS a b = 0 then ckS c d else 20
theorem ck2S_cases (a b c d : Int) : ck2S a b c d = 0 ∧ -4503599627370496 ≤ a ∧ a ≤ b ∧ b ≤ 4503599627370496 ∧ -4503599627370496 ≤ c ∧ c ≤ d ∧ d ≤ 4503599627370496 ∨
    ck2S a b c d = 20 ∧ (a < -4503599627370496 ∨ b < a ∨ 4503599627370496 < b ∨ c < -4503599627370496 ∨ d < c ∨ 4503599627370496 < d) := by
  unfold ck2S
  rcases ckS_cases a b with ⟨h, h0, h1⟩ | ⟨h, h0⟩ <;> rcases ckS_cases c d with ⟨k, k0, k1⟩ | ⟨k, k0⟩ <;> simp [h, k] <;> omega
set_option maxHeartbeats 1000000 in
theorem checkAll_any (a b c d : Int) (q : Nat) (w : World) (hq : q < w.heap.size) (e0 : w.cell? ⟨q, 0, none⟩ = some (.int .i64 a)) (e1 : w.cell? ⟨q, 1, none⟩ = some (.int .i64 b))
    (e2 : w.cell? ⟨q, 2, none⟩ = some (.int .i64 c)) (e3 : w.cell? ⟨q, 3, none⟩ = some (.int .i64 d)) :
    Calls Try.prog 35 #[.slice (some ⟨q, 0, none⟩) 2 2] w fun e w' => e = .returned (.int .i64 (ck2S a b c d)) ∧ Below w.heap.size w w' := by
  have hc := fun w => sCheck_any a b w
  have hd := fun w => sCheck_any c d w
  rcases ckS_cases a b with ⟨h, h0, h1, h2⟩ | ⟨h, h0⟩
  · rcases ckS_cases c d with ⟨k, k0, k1, k2⟩ | ⟨k, k0⟩
    · rw [show ck2S a b c d = 0 by unfold ck2S; rw [if_pos h]; exact k]
      rw [h] at hc; rw [k] at hd; clear h k
      go_enter Try.func35, Try.ntmps35
      go_wp2
      refine wp_loop_rounds 3 ?_
      rw [rounds_succ]
      go_wp2_with (go_at_call 42; refine (hc _).mono ?_; rintro e w1 ⟨rfl, hb1⟩; obtain ⟨hc1, hf1⟩ := bcell hb1; have hz1 : w.heap.size < w1.heap.size := (by have := hb1.size; (try simp at this); omega))
      rw [rounds_succ]
      go_wp2_with (go_at_call 42; refine (hd _).mono ?_; rintro e w2 ⟨rfl, hb2⟩; obtain ⟨hc2, hf2⟩ := bcell hb2; have hz2 : w.heap.size < w2.heap.size := (by have := hb2.size; (try simp at this); omega))
      rw [rounds_succ]
      go_wp2
      go_ret
      exact ⟨rfl, by (repeat (first | with_reducible exact Below.refl _ _ | with_reducible assumption | refine Below.alloc ?_ (by (try simp); try omega) _ | refine Below.setCell ?_ (by (try simp); try omega) _ | refine below_drewN ?_ _ | refine Below.drew ?_ | (with_reducible refine Below.trans ?_ (Below.mono (by assumption) (by (try simp); try omega)))))⟩
    · rw [show ck2S a b c d = 20 by unfold ck2S; rw [if_pos h]; exact k]
      rw [h] at hc; rw [k] at hd; clear h k
      go_enter Try.func35, Try.ntmps35
      go_wp2
      refine wp_loop_rounds 3 ?_
      rw [rounds_succ]
      go_wp2_with (go_at_call 42; refine (hc _).mono ?_; rintro e w1 ⟨rfl, hb1⟩; obtain ⟨hc1, hf1⟩ := bcell hb1; have hz1 : w.heap.size < w1.heap.size := (by have := hb1.size; (try simp at this); omega))
      rw [rounds_succ]
      go_wp2_with (go_at_call 42; refine (hd _).mono ?_; rintro e w2 ⟨rfl, hb2⟩; obtain ⟨hc2, hf2⟩ := bcell hb2; have hz2 : w.heap.size < w2.heap.size := (by have := hb2.size; (try simp at this); omega))
      go_ret
      exact ⟨rfl, by (repeat (first | with_reducible exact Below.refl _ _ | with_reducible assumption | refine Below.alloc ?_ (by (try simp); try omega) _ | refine Below.setCell ?_ (by (try simp); try omega) _ | refine below_drewN ?_ _ | refine Below.drew ?_ | (with_reducible refine Below.trans ?_ (Below.mono (by assumption) (by (try simp); try omega)))))⟩
  · rw [show ck2S a b c d = 20 by unfold ck2S; rw [if_neg (by omega)]]
    rw [h] at hc; clear h
    go_enter Try.func35, Try.ntmps35
    go_wp2
    refine wp_loop_rounds 3 ?_
    rw [rounds_succ]
    go_wp2_with (go_at_call 42; refine (hc _).mono ?_; rintro e w1 ⟨rfl, hb1⟩; obtain ⟨hc1, hf1⟩ := bcell hb1; have hz1 : w.heap.size < w1.heap.size := (by have := hb1.size; (try simp at this); omega))
    go_ret
    exact ⟨rfl, by (repeat (first | with_reducible exact Below.refl _ _ | with_reducible assumption | refine Below.alloc ?_ (by (try simp); try omega) _ | refine Below.setCell ?_ (by (try simp); try omega) _ | refine below_drewN ?_ _ | refine Below.drew ?_ | (with_reducible refine Below.trans ?_ (Below.mono (by assumption) (by (try simp); try omega)))))⟩

end Go.Proofs.Ytdaignklmbmcnaa
