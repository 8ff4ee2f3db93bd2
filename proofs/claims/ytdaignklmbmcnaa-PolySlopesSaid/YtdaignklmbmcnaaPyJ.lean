/-
  slices.Clone of coefficients in memory of the call's own.
-/
import Derived.Test.YtdaignklmbmcnaaPyF
import Derived.Laws.DeepStrings4
namespace Go.Proofs.Ytdaignklmbmcnaa
open Go.RowKit

theorem py_eql_nil (t e : TypeId) (a : Option Addr) (n c : Nat) (w : World) (h : Try.prog.underlying t = some (.slice e)) : (binOp .eql t (.slice a n c) (.slice none 0 0)).run Try.prog w = .ok (.bool a.isNone) w := by
  simp only [binOp]; simp [run_equal_slice_nil w t e a n c h]
/-- A row of the call's own, as a value. -/
theorem own_form {w : World} {base : Nat} {e : TypeId} {u : Value} {r : List (Int × Int)} (h : w.ownsRow base e 2 u r.length (rowOf r)) (hp : 0 < r.length) :
    ∃ g cap, u = .slice (some ⟨g, 0, none⟩) r.length cap ∧ r.length ≤ cap ∧ base ≤ g ∧ g < w.heap.size ∧ w.ownsRow base e 2 (.slice (some ⟨g, 0, none⟩) r.length cap) r.length (rowOf r) := by
  have h' := h
  rcases h.2 with ⟨_, h0⟩ | ⟨g, cap, cur, rfl, hg, hh, hc, _⟩
  · omega
  · exact ⟨g, cap, rfl, hc, hg, (Array.getElem?_eq_some_iff.1 hh).1, h'⟩
def CloneP (w : World) (r : List (Int × Int)) (e : Ending) (w' : World) : Prop :=
  Below w.heap.size w w' ∧ ∃ v, e = .returned v ∧ w'.ownsRow w.heap.size 24 2 v r.length (rowOf r) ∧ (r = [] → v = .slice none 0 0)
set_option maxRecDepth 100000 in
theorem pyClone_any (u : Value) (r : List (Int × Int)) (base : Nat) (w : World) (h : w.ownsRow base 24 2 u r.length (rowOf r)) (hr : r.length ≤ 8) (hnil : r = [] → u = .slice none 0 0) :
    Calls Try.prog 17 #[u] w (CloneP w r) := by
  obtain ⟨i0, hi, hz0, hz1, hz2⟩ := span_parts
  by_cases h0 : r = []
  · have hu := hnil h0
    subst hu
    have hq := fun w : World => py_eql_nil 22 24 none 0 0 w Try.underlying22
    rw [show (none : Option Addr).isNone = true from rfl] at hq
    have hl : r.length = 0 := by rw [h0]; rfl
    have hR : rowOf r = [] := by rw [h0]; rfl
    clear hnil h
    go_enter Try.func17, Try.ntmps17
    go_wp2
    go_ret
    exact ⟨Below.refl _ _, _, rfl, by rw [hl, hR]; exact World.ownsRow_nil _ _ _ _, fun _ => rfl⟩
  · have hp : 0 < r.length := by cases r with
      | nil => exact absurd rfl h0
      | cons _ _ => simp
    obtain ⟨g, cap, rfl, hc, hg, hgl, hown⟩ := own_form h hp
    have hown0 : (w.alloc (.cells #[] 24)).ownsRow w.heap.size 24 2 (.slice (some ⟨w.heap.size, 0, none⟩) 0 0) 0 [] := World.ownsRow_lit w #[] 0 (Nat.le_refl _) (by unfold maxLen; omega) rfl
    obtain ⟨X, hX⟩ : ∃ X, X = rowOf r := ⟨_, rfl⟩
    have hXl : X.length = r.length * 2 := by rw [hX, rowOf_length]
    have hXc : ∀ v ∈ X, v.oneCell' = true := by rw [hX]; exact rowOf_one r
    have hXp : ∀ (j : Nat) (v : Value), X[j]? = some v → (w.alloc (.cells #[] 24)).cell? ((⟨g, 0, none⟩ : Addr).add j) = some v := fun j v hv =>
      bkeep ((Below.refl _ _).alloc (Nat.le_refl _) _) (rowOf_src (w := w) (fun i hi' => by
        obtain ⟨g0, g1⟩ := rowOf_at r i hi'
        rw [Nat.zero_add, hown.cellAt (i * 2) (by omega), hown.cellAt (i * 2 + 1) (by omega)]
        exact ⟨g0, g1⟩) j v (by rw [← hX]; exact hv))
    have hq := fun w : World => py_eql_nil 22 24 (some ⟨g, 0, none⟩) r.length cap w Try.underlying22
    rw [show (some ⟨g, 0, none⟩ : Option Addr).isNone = false from rfl] at hq
    obtain ⟨n, hn⟩ : ∃ n, r.length = n := ⟨_, rfl⟩
    have hend : ∀ (w' : World) (v' : Value), w'.ownsRow w.heap.size 24 2 v' (0 + n) ([] ++ X) → w'.ownsRow w.heap.size 24 2 v' r.length (rowOf r) := fun w' v' h => by
      rw [Nat.zero_add, List.nil_append, hX, ← hn] at h; exact h
    rw [hn] at hXl hr hq ⊢
    have Hend := Lib.hid hend
    have Hn := Lib.hid hn
    clear hX hend hnil h hown hn hp hc
    go_enter Try.func17, Try.ntmps17
    go_wp2_with (refine wpList_append_own _ rfl _ _ 22 rfl w.heap.size 24 i0 (.agg #[.int .i64 0, .int .i64 0]) 2 16 Try.underlying22 hi hz0 hz1 hz2 rfl (by decide) _ 0 [] rfl hown0 ⟨g, 0, none⟩ n cap X rfl hXl hXp hXc (by unfold maxLen; omega) (by omega) (by simp) ?_; intro v' w1 hown' hgrow _; refine Hid.out ?_)
    refine Lib.hid ?_
    have hs := Hend.out _ _ hown'
    have hb : Below w.heap.size w w1 := ((Below.refl _ _).alloc (Nat.le_refl _) _).grown hgrow (by simp) (fun k hk => by cases hk; exact Nat.le_refl _)
    clear hown' hgrow
    go_wp2
    go_ret
    exact ⟨hb, _, rfl, hs, fun h => absurd h h0⟩
end Go.Proofs.Ytdaignklmbmcnaa
