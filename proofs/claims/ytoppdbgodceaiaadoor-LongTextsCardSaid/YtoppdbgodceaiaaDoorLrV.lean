/-
  Text: the program and the reference, for any long integer.
-/
import Derived.Test.YtoppdbgodceaiaaDoorLrU
namespace Go.Proofs.YtoppdbgodceaiaaDoor
open Go.RowKit

set_option maxRecDepth 100000 in
set_option maxHeartbeats 1000000 in
theorem rtext_any (b : Bool) (s1 : Value) (l : List Int) (S : ByteArray) (er : Int) (w : World) (h1 : Ls w s1 l) (ll : l.length ≤ 600) (he : ckL b l = er) (hS : S = if er = 0 then sx (numL b l) else ⟨⟨[]⟩⟩) :
    Calls Tryd.prog 50 #[.agg #[.bool b, s1]] w fun e w' => e = .returned (.tuple #[.string S, .int .i64 er]) ∧ Below w.heap.size w w' := by
  have hB : Below w.heap.size w (w.alloc (.cells #[.bool b, s1] 24)) := by (repeat (first | with_reducible exact Below.refl _ _ | with_reducible assumption | refine Below.alloc ?_ (by (try simp); try omega) _ | refine Below.setCell ?_ (by (try simp); try omega) _ | refine below_drewN ?_ _ | refine Below.drew ?_ | (with_reducible refine Below.trans ?_ (Below.mono (by assumption) (by (try simp); try omega)))))
  have h1' := h1
  obtain ⟨pa, ca, rfl, _, _⟩ := h1'
  have bA := Bx.new w (.bool b) (.slice pa l.length ca) 24
  have hr := rright_any b _ l _ (h1.keep hB) (by omega)
  have rA0 := bA.c0
  have rA1 := bA.c1
  have H1 := h1.keep hB
  go_enter Tryd.func50, Tryd.ntmps50
  go_wp2_with fail
  go_at_call 66
  refine hr.mono ?_
  rintro e w1 ⟨rfl, hb⟩
  replace bA := bA.keep hb
  replace H1 := H1.keep hb
  replace hB := hB.trans (hb.mono hB.size)
  have qA0 := bA.c0
  have qA1 := bA.c1
  clear hr hb h1 rA0 rA1 bA
  rcases ckB b l with c1 | c1
  · rw [c1] at he ⊢
    subst he
    obtain ⟨L1, d1⟩ := lg_any H1 c1
    rw [if_pos rfl] at hS
    subst hS
    have hd := rdec_num _ _ w1 L1 (by unfold Dl at d1; omega)
    clear H1 c1 L1 d1
    go_wp2_with fail
    go_at_call 51
    refine hd.mono ?_
    rintro e w2 ⟨rfl, hb⟩
    replace hB := hB.trans (hb.mono hB.size)
    clear hd hb qA0 qA1
    go_wp2
    go_ret2
    exact ⟨rfl, hB⟩
  · rw [c1] at he ⊢
    subst he
    rw [if_neg (by omega)] at hS
    subst hS
    clear H1 c1
    go_wp2
    go_ret2
    exact ⟨rfl, hB⟩
/-- The text of any long integer of at most 65 digits. -/
theorem text_both (b : Bool) (l : List Int) (ll : l.length ≤ 65) : ∃ (S : ByteArray) (er : Int),
    (∀ w s1, Ls w s1 l → Pw w → Calls Tryd.prog 49 #[.agg #[.bool b, s1]] w fun e w' => e = .returned (.tuple #[.string S, .int .i64 er]) ∧ Below w.heap.size w w') ∧
    (∀ w s1, Ls w s1 l → Calls Tryd.prog 50 #[.agg #[.bool b, s1]] w fun e w' => e = .returned (.tuple #[.string S, .int .i64 er]) ∧ Below w.heap.size w w') := by
  rcases ckB b l with c1 | c1
  · refine ⟨_, 0, fun w s1 h1 hP => ?_, fun w s1 h1 => rtext_any b s1 l _ 0 w h1 (by omega) c1 (by rw [if_pos rfl])⟩
    obtain ⟨L1, d1⟩ := lg_any h1 c1
    exact text_num _ _ w L1 (by unfold Dl at d1; omega) hP
  · exact ⟨_, 30, fun w s1 h1 hP => text_bad b s1 l w h1 (by omega) c1, fun w s1 h1 => rtext_any b s1 l _ 30 w h1 (by omega) c1 (by rw [if_neg (by omega)])⟩
end Go.Proofs.YtoppdbgodceaiaaDoor
