/-
  Walks of package long: Same, Cmp, Of; slices.Equal.
-/
import Derived.Test.YtoppdbgodceaiaaDoorLgW
namespace Go.Proofs.YtoppdbgodceaiaaDoor
open Go.RowKit

set_option maxHeartbeats 1000000 in
theorem equal_any (va vb : Value) (a b : List Int) (w : World) (ha : Ls w va a) (hb : Ls w vb b) (la : a.length ≤ 1000000) (lb : b.length ≤ 1000000) :
    Calls Tryd.prog 62 #[va, vb] w fun e w' => e = .returned (.bool (decide (a = b))) ∧ Below w.heap.size w w' := by
  obtain ⟨pa, ca, rfl, ⟨hca', hna⟩, hpa⟩ := ha
  obtain ⟨pb, cb, rfl, ⟨hcb', hnb⟩, hpb⟩ := hb
  by_cases hl : a.length = b.length
  · have hno : ∀ k, k < a.length → el a k ≠ el b k → Hid (decide (a = b) = false) := fun k _ h => Lib.hid (by
      simp; intro e; rw [e] at h; exact h rfl)
    have hyes : (∀ j, j < a.length → el a j = el b j) → Hid (decide (a = b) = true) := fun h => Lib.hid (by
      simp
      apply List.ext_getElem hl
      intro i h1 h2
      have := h i h1
      simpa [el, List.getD_eq_getElem?_getD, List.getElem?_eq_getElem h1, List.getElem?_eq_getElem h2] using this)
    rw [← hl] at hpb
    rw [show b.length = a.length from hl.symm]
    clear hl hca' hcb' hna hnb lb
    generalize decide (a = b) = R at *
    go_enter Tryd.func62, Tryd.ntmps62
    go_wp2
    go_loopw [13] (fun i wr => ∃ (k : Nat), i = .int .i64 k ∧ k ≤ a.length ∧ (∀ j, j < k → el a j = el b j) ∧ Below w.heap.size w wr)
      (fun i _ => a.length - (intOf i).toNat)
    case atStart => exact ⟨0, rfl, Nat.zero_le _, fun j hj => by omega, Below.refl _ _⟩
    case round =>
      obtain ⟨k, rfl, hk, hj, hnx⟩ := hrel
      by_cases hk' : k < a.length
      · obtain ⟨ba, oa, rfl, hxa⟩ := hpa (by omega)
        obtain ⟨bb, ob, rfl, hxb⟩ := hpb (by omega)
        have hx := lkeep hnx (hxa k hk')
        have hy := lkeep hnx (hxb k hk')
        have h1 := hno k hk'
        obtain ⟨x, ex⟩ : ∃ x, el a k = x := ⟨_, rfl⟩
        obtain ⟨y, ey⟩ : ∃ y, el b k = y := ⟨_, rfl⟩
        rw [ex] at hx h1
        rw [ey] at hy h1
        have hxy : x = y → ∀ j, j < k + 1 → el a j = el b j := fun h j hj' => by
          rcases Nat.lt_or_ge j k with c | c
          · exact hj j c
          · rw [show j = k by omega, ex, ey, h]
        clear ex ey hxa hxb hno hyes hj
        by_cases c : x = y
        · subst c
          have h2 := hxy rfl
          clear hxy h1
          go_wp2
          go_quiet (fail)
          go_wp2
          go_roundw
          case rel => exact ⟨k + 1, by simp, by omega, h2, by (repeat (first | with_reducible exact Below.refl _ _ | with_reducible assumption | refine Below.alloc ?_ (by (try simp); try omega) _ | refine Below.setCell ?_ (by (try simp); try omega) _ | refine below_drewN ?_ _ | refine Below.drew ?_ | (with_reducible refine Below.trans ?_ (Below.mono (by assumption) (by (try simp); try omega)))))⟩
          case measure => simp [intOf]; omega
        · have Ho := h1 c
          clear hxy h1
          go_wp2
          go_quiet (fail)
          go_wp2
          go_ret
          exact ⟨by rw [Ho.out]; rfl, by (repeat (first | with_reducible exact Below.refl _ _ | with_reducible assumption | refine Below.alloc ?_ (by (try simp); try omega) _ | refine Below.setCell ?_ (by (try simp); try omega) _ | refine below_drewN ?_ _ | refine Below.drew ?_ | (with_reducible refine Below.trans ?_ (Below.mono (by assumption) (by (try simp); try omega)))))⟩
      · have hka : k = a.length := by omega
        subst hka
        have Ho := hyes hj
        clear hno hyes hj
        go_wp2
        go_ret
        exact ⟨by rw [Ho.out]; rfl, hnx⟩
  · rw [show decide (a = b) = false by simp; intro e; rw [e] at hl; exact hl rfl]
    clear hpa hpb
    go_enter Tryd.func62, Tryd.ntmps62
    go_wp2
    go_ret
    exact ⟨rfl, Below.refl _ _⟩

set_option maxHeartbeats 1000000 in
theorem same_any (b1 b2 : Bool) (s1 s2 : Value) (l m : List Int) (w : World) (h1 : Ls w s1 l) (h2 : Ls w s2 m) (ll : l.length ≤ 1000000) (lm : m.length ≤ 1000000) :
    Calls Tryd.prog 27 #[.agg #[.bool b1, s1], .agg #[.bool b2, s2]] w fun e w' => e = .returned (.bool (b1 == b2 && decide (l = m))) ∧ Below w.heap.size w w' := by
  have a1 := Below.alloc (Below.refl w.heap.size w) (Nat.le_refl _) (.cells #[.bool b1, s1] 24)
  have a2 := Below.alloc a1 a1.size (.cells #[.bool b2, s2] 24)
  have hc := fun w h h' => equal_any s1 s2 l m w h h' ll lm
  have h1' := h1.keep a2
  have h2' := h2.keep a2
  obtain ⟨pa, ca, rfl, _, _⟩ := h1
  obtain ⟨pb, cb, rfl, _, _⟩ := h2
  generalize decide (l = m) = R at *
  generalize l.length = n1 at *
  generalize m.length = n2 at *
  cases hb : (b1 == b2)
  · rw [Bool.false_and]
    go_enter Tryd.func27, Tryd.ntmps27
    go_wp2
    go_ret
    exact ⟨rfl, a2⟩
  · rw [Bool.true_and]
    go_enter Tryd.func27, Tryd.ntmps27
    go_wp2_with (go_at_call 62; refine (hc _ h1' h2').mono ?_; rintro e w1 ⟨rfl, hb1⟩)
    go_ret
    exact ⟨rfl, a2.trans (hb1.mono a2.size)⟩
theorem same_num (A B : Value) (x y : Int) (w : World) (hA : Lg w A x) (hB : Lg w B y) (l1 : (dg (x.natAbs : Int)).length ≤ 600) (l2 : (dg (y.natAbs : Int)).length ≤ 600) :
    Calls Tryd.prog 27 #[A, B] w fun e w' => e = .returned (.bool (decide (x = y))) ∧ Below w.heap.size w w' := by
  obtain ⟨s1, rfl, h1⟩ := hA
  obtain ⟨s2, rfl, h2⟩ := hB
  have e : (decide (x < 0) == decide (y < 0) && decide (dg (x.natAbs : Int) = dg (y.natAbs : Int))) = decide (x = y) := by
    rw [Bool.eq_iff_iff]
    simp
    constructor
    · rintro ⟨h, k⟩
      have := dg_inj (by omega) (by omega) k
      omega
    · rintro rfl; exact ⟨Iff.rfl, rfl⟩
  have := same_any (decide (x < 0)) (decide (y < 0)) s1 s2 _ _ w h1 h2 (by omega) (by omega)
  rwa [e] at this

end Go.Proofs.YtoppdbgodceaiaaDoor
