/-
  Walks of package long: Check, checkAll, signed.
-/
import Derived.Test.YtoppdbgodceaiaaDoorLgL
namespace Go.Proofs.YtoppdbgodceaiaaDoor
open Go.RowKit

/-- The error of a long integer. -/
def ckL (b : Bool) (l : List Int) : Int := if l.length ≤ 600 ∧ okD l = true ∧ ¬ (b = true ∧ l.length = 0) then 0 else 30
theorem ckL_cases (b : Bool) (l : List Int) : ckL b l = 0 ∧ l.length ≤ 600 ∧ okD l = true ∧ ¬ (b = true ∧ l.length = 0) ∨ ckL b l = 30 ∧ (600 < l.length ∨ l.length ≤ 600 ∧ okD l = false ∨ l.length ≤ 600 ∧ okD l = true ∧ b = true ∧ l.length = 0) := by
  unfold ckL
  by_cases h1 : l.length ≤ 600
  · cases h2 : okD l <;> cases b <;> by_cases h3 : l.length = 0 <;> simp [h1, h3]
  · simp [h1]; omega
/-- The number of a long integer. -/
def numL (b : Bool) (l : List Int) : Int := if b then -(vl l) else vl l
/-- V is the long integer of a number. -/
def Lg (w : World) (V : Value) (z : Int) : Prop := ∃ s, V = .agg #[.bool (decide (z < 0)), s] ∧ Ls w s (dg (z.natAbs : Int))
theorem Lg.keep {w w' : World} {V : Value} {z : Int} (h : Lg w V z) (hb : Below w.heap.size w w') : Lg w' V z := by
  obtain ⟨s, rfl, h⟩ := h
  exact ⟨s, rfl, h.keep hb⟩
theorem ckL_num {z : Int} (h : (dg (z.natAbs : Int)).length ≤ 600) : ckL (decide (z < 0)) (dg (z.natAbs : Int)) = 0 := by
  unfold ckL
  rw [if_pos]
  refine ⟨h, (okD_iff _).2 ⟨dg_dig _ (by omega), dg_nrm _ (by omega)⟩, ?_⟩
  rintro ⟨h1, h2⟩
  have h1 : z < 0 := by simpa using h1
  have := dg_len_pos (x := (z.natAbs : Int)) (by omega)
  omega
/-- A valid long integer is that of its number. -/
theorem ckL_lg {b : Bool} {l : List Int} (h : ckL b l = 0) : b = decide (numL b l < 0) ∧ l = dg ((numL b l).natAbs : Int) ∧ l.length ≤ 600 := by
  rcases ckL_cases b l with ⟨_, h1, h2, h3⟩ | ⟨h', _⟩
  · obtain ⟨hd, hn⟩ := (okD_iff l).1 h2
    have h0 := vl_nonneg hd
    have e : ((numL b l).natAbs : Int) = vl l := by unfold numL; cases b <;> simp <;> omega
    refine ⟨?_, by rw [e, dg_of hd hn], h1⟩
    cases b
    · unfold numL; simp; omega
    · have hl : l ≠ [] := fun h => h3 ⟨rfl, by rw [h]; rfl⟩
      have := nrm_pos hd hn hl
      unfold numL; simp; omega
  · omega

set_option maxRecDepth 100000 in
set_option maxHeartbeats 1000000 in
theorem check_any (b : Bool) (s : Value) (l : List Int) (w : World) (hs : Ls w s l) (ll : l.length ≤ 1000000) :
    Calls Tryd.prog 25 #[.agg #[.bool b, s]] w fun e w' => e = .returned (.int .i64 (ckL b l)) ∧ Below w.heap.size w w' := by
  have hal := Below.alloc (Below.refl w.heap.size w) (Nat.le_refl _) (.cells #[.bool b, s] 24)
  have hv := valid_any s l _ (hs.keep hal) ll
  have c0 : (w.alloc (.cells #[.bool b, s] 24)).cell? ⟨w.heap.size, 0, none⟩ = some (.bool b) := by simp
  have c1 : (w.alloc (.cells #[.bool b, s] 24)).cell? ⟨w.heap.size, 1, none⟩ = some s := by simp
  obtain ⟨pa, ca, rfl, hca', hqa⟩ := hs
  rcases ckL_cases b l with ⟨h, h1, h2, h3⟩ | ⟨h, h1 | ⟨h1, h2⟩ | ⟨h1, h2, h3, h4⟩⟩
  · rw [h]
    rw [h2] at hv
    clear hqa hca' h h2
    generalize l.length = n at *
    have h1' : ¬ 600 < n := by omega
    cases b with
    | true =>
      have h4 : ¬ n = 0 := fun k => h3 ⟨rfl, k⟩
      have h5 : ((n : Int) == 0) = false := by simp; omega
      clear h3
      go_enter Tryd.func25, Tryd.ntmps25
      go_wp2_with (go_at_call 71; refine hv.mono ?_; rintro e w1 ⟨rfl, rfl⟩)
      go_ret
      exact ⟨rfl, hal⟩
    | false =>
      clear h3
      go_enter Tryd.func25, Tryd.ntmps25
      go_wp2_with (go_at_call 71; refine hv.mono ?_; rintro e w1 ⟨rfl, rfl⟩)
      go_ret
      exact ⟨rfl, hal⟩
  · rw [h]
    clear hqa hca' h hv
    generalize l.length = n at *
    go_enter Tryd.func25, Tryd.ntmps25
    go_wp2
    go_ret
    exact ⟨rfl, hal⟩
  · rw [h]
    rw [h2] at hv
    clear hqa hca' h h2
    generalize l.length = n at *
    have h1' : ¬ 600 < n := by omega
    go_enter Tryd.func25, Tryd.ntmps25
    go_wp2_with (go_at_call 71; refine hv.mono ?_; rintro e w1 ⟨rfl, rfl⟩)
    go_ret
    exact ⟨rfl, hal⟩
  · rw [h]
    rw [h2] at hv
    subst h3
    clear hqa hca' h h2
    generalize l.length = n at *
    subst h4
    go_enter Tryd.func25, Tryd.ntmps25
    go_wp2_with (go_at_call 71; refine hv.mono ?_; rintro e w1 ⟨rfl, rfl⟩)
    go_ret
    exact ⟨rfl, hal⟩
theorem check_num (V : Value) (z : Int) (w : World) (hV : Lg w V z) (hz : (dg (z.natAbs : Int)).length ≤ 600) :
    Calls Tryd.prog 25 #[V] w fun e w' => e = .returned (.int .i64 0) ∧ Below w.heap.size w w' := by
  obtain ⟨s, rfl, hs⟩ := hV
  have := check_any (decide (z < 0)) s _ w hs (by omega)
  rwa [ckL_num hz] at this

set_option maxRecDepth 100000 in
set_option maxHeartbeats 1000000 in
theorem checkAll1_any (b : Bool) (s : Value) (l : List Int) (q : Nat) (w : World) (hs : Ls w s l) (ll : l.length ≤ 1000000) (e0 : w.cell? ⟨q, 0, none⟩ = some (.bool b)) (e1 : w.cell? ⟨q, 1, none⟩ = some s) :
    Calls Tryd.prog 64 #[.slice (some ⟨q, 0, none⟩) 1 1] w fun e w' => e = .returned (.int .i64 (ckL b l)) ∧ Below w.heap.size w w' := by
  have hal := Below.alloc (Below.refl w.heap.size w) (Nat.le_refl _) (.cells #[.bool b, s] 24)
  have hc := check_any b s l _ (hs.keep hal) ll
  obtain ⟨pa, ca, rfl, hca', hqa⟩ := hs
  clear hca' hqa
  rcases ckL_cases b l with ⟨h, hx⟩ | ⟨h, hx⟩
  · rw [h] at hc ⊢
    clear hx h
    generalize l.length = n at *
    go_enter Tryd.func64, Tryd.ntmps64
    go_wp2
    refine wp_loop_rounds 2 ?_
    rw [rounds_succ]
    go_wp2_with (go_at_call 25; refine hc.mono ?_; rintro e w1 ⟨rfl, hb1⟩)
    rw [rounds_succ]
    go_wp2
    go_ret
    exact ⟨rfl, hal.trans (hb1.mono hal.size)⟩
  · rw [h] at hc ⊢
    clear hx h
    generalize l.length = n at *
    go_enter Tryd.func64, Tryd.ntmps64
    go_wp2
    refine wp_loop_rounds 2 ?_
    rw [rounds_succ]
    go_wp2_with (go_at_call 25; refine hc.mono ?_; rintro e w1 ⟨rfl, hb1⟩)
    go_ret
    exact ⟨rfl, hal.trans (hb1.mono hal.size)⟩
/-- The error of the first of two that is not valid. -/
def ckT (c d : Int) : Int := if c = 0 then d else 30
set_option maxRecDepth 100000 in
set_option maxHeartbeats 1000000 in
theorem checkAll2_any (b c : Bool) (s t : Value) (l m : List Int) (q : Nat) (w : World) (hs : Ls w s l) (ht : Ls w t m) (ll : l.length ≤ 1000000) (lm : m.length ≤ 1000000) (e0 : w.cell? ⟨q, 0, none⟩ = some (.bool b)) (e1 : w.cell? ⟨q, 1, none⟩ = some s)
    (e2 : w.cell? ⟨q, 2, none⟩ = some (.bool c)) (e3 : w.cell? ⟨q, 3, none⟩ = some t) :
    Calls Tryd.prog 64 #[.slice (some ⟨q, 0, none⟩) 2 2] w fun e w' => e = .returned (.int .i64 (ckT (ckL b l) (ckL c m))) ∧ Below w.heap.size w w' := by
  have hal := Below.alloc (Below.refl w.heap.size w) (Nat.le_refl _) (.cells #[.bool b, s] 24)
  have hc := check_any b s l _ (hs.keep hal) ll
  have hd := fun w h => check_any c t m w h lm
  have ht' := ht
  obtain ⟨pa, ca, rfl, hca', hqa⟩ := hs
  obtain ⟨pb, cb, rfl, hcb', hqb⟩ := ht
  clear hca' hqa hcb' hqb
  rcases ckL_cases b l with ⟨h, hx⟩ | ⟨h, hx⟩
  · rcases ckL_cases c m with ⟨k, ky⟩ | ⟨k, ky⟩
    · rw [h] at hc ⊢
      rw [k] at hd ⊢
      clear hx h ky k
      rw [show ckT 0 0 = 0 from rfl]
      generalize l.length = n at *
      generalize m.length = n2 at *
      go_enter Tryd.func64, Tryd.ntmps64
      go_wp2
      refine wp_loop_rounds 3 ?_
      rw [rounds_succ]
      go_wp2_with (go_at_call 25; refine hc.mono ?_; rintro e w1 ⟨rfl, hb1⟩)
      have B1 := hal.trans (hb1.mono hal.size)
      have f2 := lkeep B1 e2
      have f3 := lkeep B1 e3
      have hal2 := Below.alloc (Below.refl w1.heap.size w1) (Nat.le_refl _) (.cells #[.bool c, .slice pb n2 cb] 24)
      have hd2 := hd _ ((ht'.keep B1).keep hal2)
      clear hc hd
      rw [rounds_succ]
      go_wp2_with (go_at_call 25; refine hd2.mono ?_; rintro e w2 ⟨rfl, hb2⟩)
      rw [rounds_succ]
      go_wp2
      go_ret
      exact ⟨rfl, (B1.trans (hal2.mono B1.size)).trans (hb2.mono (Nat.le_trans B1.size hal2.size))⟩
    · rw [h] at hc ⊢
      rw [k] at hd ⊢
      clear hx h ky k
      rw [show ckT 0 30 = 30 from rfl]
      generalize l.length = n at *
      generalize m.length = n2 at *
      go_enter Tryd.func64, Tryd.ntmps64
      go_wp2
      refine wp_loop_rounds 3 ?_
      rw [rounds_succ]
      go_wp2_with (go_at_call 25; refine hc.mono ?_; rintro e w1 ⟨rfl, hb1⟩)
      have B1 := hal.trans (hb1.mono hal.size)
      have f2 := lkeep B1 e2
      have f3 := lkeep B1 e3
      have hal2 := Below.alloc (Below.refl w1.heap.size w1) (Nat.le_refl _) (.cells #[.bool c, .slice pb n2 cb] 24)
      have hd2 := hd _ ((ht'.keep B1).keep hal2)
      clear hc hd
      rw [rounds_succ]
      go_wp2_with (go_at_call 25; refine hd2.mono ?_; rintro e w2 ⟨rfl, hb2⟩)
      go_ret
      exact ⟨rfl, (B1.trans (hal2.mono B1.size)).trans (hb2.mono (Nat.le_trans B1.size hal2.size))⟩
  · rw [h] at hc ⊢
    clear hx h hd
    rw [show ckT 30 (ckL c m) = 30 from rfl]
    generalize l.length = n at *
    generalize m.length = n2 at *
    go_enter Tryd.func64, Tryd.ntmps64
    go_wp2
    refine wp_loop_rounds 3 ?_
    rw [rounds_succ]
    go_wp2_with (go_at_call 25; refine hc.mono ?_; rintro e w1 ⟨rfl, hb1⟩)
    go_ret
    exact ⟨rfl, hal.trans (hb1.mono hal.size)⟩

/-- The long integer 0, no digits. -/
abbrev noL : Value := .agg #[.bool false, .slice none 0 0]
set_option maxRecDepth 100000 in
theorem signed_ok (ng : Bool) (d : Value) (x : Int) (w : World) (x0 : 0 ≤ x) (hd : Ls w d (dg x)) (lx : (dg x).length ≤ 600) :
    Calls Tryd.prog 74 #[.bool ng, d] w fun e w' => e = .returned (.tuple #[.agg #[.bool (ng && decide (0 < x)), d], .int .i64 0]) ∧ Below w.heap.size w w' := by
  have hl : 0 < (dg x).length ↔ 0 < x := by
    constructor
    · intro h
      rcases (by omega : x = 0 ∨ 0 < x) with k | k
      · rw [k, dg_zero] at h; simp at h
      · exact k
    · exact dg_len_pos
  obtain ⟨pa, ca, rfl, hca', hqa⟩ := hd
  clear hca' hqa
  generalize (dg x).length = n at *
  by_cases h : 0 < x
  · have h2 := hl.2 h
    rw [show decide (0 < x) = true by simpa using h, Bool.and_true]
    clear hl
    cases ng
    all_goals
      go_enter Tryd.func74, Tryd.ntmps74
      go_wp2
      refine bodyPost_ret (v := .tuple #[.agg #[.bool _, .slice pa n ca], .int .i64 0]) (by simp [results, Tryd.results74, go_sem]) rfl ⟨rfl, by (repeat (first | with_reducible exact Below.refl _ _ | with_reducible assumption | refine Below.alloc ?_ (by (try simp); try omega) _ | refine Below.setCell ?_ (by (try simp); try omega) _ | refine below_drewN ?_ _ | refine Below.drew ?_ | (with_reducible refine Below.trans ?_ (Below.mono (by assumption) (by (try simp); try omega)))))⟩
  · have h2 : n = 0 := by
      rcases Nat.eq_zero_or_pos n with k | k
      · exact k
      · exact absurd (hl.1 k) h
    rw [show decide (0 < x) = false by simpa using h, Bool.and_false]
    clear hl
    subst h2
    cases ng
    all_goals
      go_enter Tryd.func74, Tryd.ntmps74
      go_wp2
      refine bodyPost_ret (v := .tuple #[.agg #[.bool false, .slice pa 0 ca], .int .i64 0]) (by simp [results, Tryd.results74, go_sem]) rfl ⟨rfl, by (repeat (first | with_reducible exact Below.refl _ _ | with_reducible assumption | refine Below.alloc ?_ (by (try simp); try omega) _ | refine Below.setCell ?_ (by (try simp); try omega) _ | refine below_drewN ?_ _ | refine Below.drew ?_ | (with_reducible refine Below.trans ?_ (Below.mono (by assumption) (by (try simp); try omega)))))⟩
set_option maxRecDepth 100000 in
theorem signed_big (ng : Bool) (d : Value) (x : Int) (w : World) (hd : Ls w d (dg x)) (lx : 600 < (dg x).length) (lx2 : (dg x).length ≤ 100000) :
    Calls Tryd.prog 74 #[.bool ng, d] w fun e w' => e = .returned (.tuple #[noL, .int .i64 6]) ∧ Below w.heap.size w w' := by
  obtain ⟨pa, ca, rfl, hca', hqa⟩ := hd
  clear hca' hqa
  generalize (dg x).length = n at *
  go_enter Tryd.func74, Tryd.ntmps74
  go_wp2
  refine bodyPost_ret (v := .tuple #[.agg #[.bool false, .slice none 0 0], .int .i64 6]) (by simp [results, Tryd.results74, go_sem]) rfl ⟨rfl, by (repeat (first | with_reducible exact Below.refl _ _ | with_reducible assumption | refine Below.alloc ?_ (by (try simp); try omega) _ | refine Below.setCell ?_ (by (try simp); try omega) _ | refine below_drewN ?_ _ | refine Below.drew ?_ | (with_reducible refine Below.trans ?_ (Below.mono (by assumption) (by (try simp); try omega)))))⟩

/-- What a call returns whose result is a number: the number, or ErrBig. -/
def RL (z : Int) (e : Ending) (w' : World) : Prop :=
  ((dg (z.natAbs : Int)).length ≤ 600 ∧ ∃ V, e = .returned (.tuple #[V, .int .i64 0]) ∧ Lg w' V z) ∨ (600 < (dg (z.natAbs : Int)).length ∧ e = .returned (.tuple #[noL, .int .i64 6]))
theorem RL.keep {z : Int} {e : Ending} {w w' : World} (h : RL z e w) (hb : Below w.heap.size w w') : RL z e w' := by
  rcases h with ⟨h, V, he, hV⟩ | h
  · exact .inl ⟨h, V, he, hV.keep hb⟩
  · exact .inr h
theorem signed_num (ng : Bool) (d : Value) (x z : Int) (w : World) (x0 : 0 ≤ x) (hd : Ls w d (dg x)) (lx : (dg x).length ≤ 100000) (hz : z = if ng then -x else x) :
    Calls Tryd.prog 74 #[.bool ng, d] w fun e w' => RL z e w' ∧ Below w.heap.size w w' := by
  have e : (z.natAbs : Int) = x := by rw [hz]; cases ng <;> simp <;> omega
  by_cases h : (dg x).length ≤ 600
  · refine (signed_ok ng d x w x0 hd h).mono ?_
    rintro e' w' ⟨rfl, hb⟩
    refine ⟨.inl ⟨by rw [e]; exact h, _, rfl, d, ?_, by rw [e]; exact hd.keep hb⟩, hb⟩
    rw [hz]
    cases ng
    · simp; omega
    · simp
  · refine (signed_big ng d x w hd (by omega) lx).mono ?_
    rintro e' w' ⟨rfl, hb⟩
    exact ⟨.inr ⟨by rw [e]; omega, rfl⟩, hb⟩
end Go.Proofs.YtoppdbgodceaiaaDoor
