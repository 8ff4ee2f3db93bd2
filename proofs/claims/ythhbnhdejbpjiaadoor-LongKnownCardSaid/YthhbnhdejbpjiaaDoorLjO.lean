/-
  Slices whose memory a call has made itself; of package long: trimmed keeps the memory.
-/
import Derived.Test.YthhbnhdejbpjiaaDoorLgC
namespace Go.Proofs.YthhbnhdejbpjiaaDoor
open Go.RowKit

/-- The slice value v holds the numbers l, in block g, whose cells are ints that may be written; g is not below B. -/
def Ow (w : World) (B g : Nat) (v : Value) (l : List Int) : Prop :=
  ∃ cap cur, v = .slice (some ⟨g, 0, none⟩) l.length cap ∧ B ≤ g ∧ l.length ≤ cap ∧ cap ≤ maxLen ∧ w.heap[g]? = some (.cells cur 3 (0, 0)) ∧ cur.size = cap ∧ ∀ i, i < l.length → cur[i]? = some (.int .i64 (el l i))
theorem Ow.lt {w : World} {B g : Nat} {v : Value} {l : List Int} (h : Ow w B g v l) : g < w.heap.size := by
  obtain ⟨_, _, _, _, _, _, h, _⟩ := h
  exact (Array.getElem?_eq_some_iff.1 h).1
theorem Ow.ge {w : World} {B g : Nat} {v : Value} {l : List Int} (h : Ow w B g v l) : B ≤ g := by
  obtain ⟨_, _, _, h, _⟩ := h
  exact h
theorem Ow.low {w : World} {B B' g : Nat} {v : Value} {l : List Int} (h : Ow w B g v l) (hb : B' ≤ B) : Ow w B' g v l := by
  obtain ⟨cap, cur, h1, h2, h3⟩ := h
  exact ⟨cap, cur, h1, Nat.le_trans hb h2, h3⟩
theorem Ow.cell {w : World} {B g : Nat} {v : Value} {l : List Int} (h : Ow w B g v l) {i : Nat} (hi : i < l.length) : w.cell? ⟨g, i, none⟩ = some (.int .i64 (el l i)) := by
  obtain ⟨cap, cur, _, _, _, _, h, _, hc⟩ := h
  rw [cell_of_row w g i cur 3 (0, 0) h]
  exact hc i hi
theorem Ow.frz {w : World} {B g : Nat} {v : Value} {l : List Int} (h : Ow w B g v l) (i : Nat) : w.frozen? ⟨g, i, none⟩ = false := by
  obtain ⟨cap, cur, _, _, _, _, h, _, hc⟩ := h
  exact frozen_of_row w g i _ 3 h
theorem Ow.ls {w : World} {B g : Nat} {v : Value} {l : List Int} (h : Ow w B g v l) : Ls w v l := by
  have h' := h
  obtain ⟨cap, cur, rfl, _, hc, _⟩ := h
  exact ⟨_, _, rfl, ⟨hc, fun h => by cases h⟩, fun _ => ⟨_, _, rfl, fun i hi => by rw [Nat.zero_add]; exact h'.cell hi⟩⟩
theorem Ow.stored {w : World} {B g : Nat} {v : Value} {l : List Int} (h : Ow w B g v l) {i : Nat} (hi : i < l.length) (x : Int) : Ow (w.setCell ⟨g, i, none⟩ (.int .i64 x)) B g v (l.set i x) := by
  obtain ⟨cap, cur, rfl, h1, h2, h3, h, h4, hc⟩ := h
  refine ⟨cap, cur.setIfInBounds i (.int .i64 x), by rw [List.length_set], h1, by rw [List.length_set]; exact h2, h3, heap_setCell_same w g i _ 3 _ h, by simpa using h4, fun j hj => ?_⟩
  rw [List.length_set] at hj
  by_cases e : j = i
  · subst e
    rw [el_set_eq _ _ _ hj, Array.getElem?_setIfInBounds_self_of_lt (by omega)]
  · rw [Array.getElem?_setIfInBounds_ne (Ne.symm e), hc j hj]
    congr 2
    simp only [el_eq, List.getD_eq_getElem?_getD]
    rw [List.getElem?_set_ne (Ne.symm e)]
theorem Ow.other {w : World} {B g h o : Nat} {v : Value} {l : List Int} (k : Ow w B g v l) (hn : g ≠ h) (u : Value) : Ow (w.setCell ⟨h, o, none⟩ u) B g v l := by
  obtain ⟨cap, cur, h1, h2, h3, h4, h5, h6⟩ := k
  exact ⟨cap, cur, h1, h2, h3, h4, by rw [heap_setCell_other w ⟨h, o, none⟩ g u hn]; exact h5, h6⟩
theorem Ow.drew {w : World} {B g : Nat} {v : Value} {l : List Int} (h : Ow w B g v l) (m : Nat) : Ow (w.drewN m) B g v l := h
theorem Ow.kept {w w' : World} {B g : Nat} {v : Value} {l : List Int} (h : Ow w B g v l) {B' : Nat} (hb : Below B' w w') (hg : g < B') : Ow w' B g v l := by
  obtain ⟨cap, cur, h1, h2, h3, h4, h5, h6⟩ := h
  exact ⟨cap, cur, h1, h2, h3, h4, by rw [hb.block g hg]; exact h5, h6⟩
theorem Ow.keep {w w' : World} {B g : Nat} {v : Value} {l : List Int} (h : Ow w B g v l) (hb : Below w.heap.size w w') : Ow w' B g v l := h.kept hb h.lt
theorem Ow.take {w : World} {B g cap n : Nat} {l : List Int} (h : Ow w B g (.slice (some ⟨g, 0, none⟩) l.length cap) l) (hn : n ≤ l.length) : Ow w B g (.slice (some ⟨g, 0, none⟩) n cap) (l.take n) := by
  obtain ⟨cap', cur, e, h1, h2, h3, h4, h5, h6⟩ := h
  obtain rfl : cap = cap' := by simpa using e
  have hl : (l.take n).length = n := by rw [List.length_take]; omega
  refine ⟨cap, cur, by rw [hl], h1, by omega, h3, h4, h5, fun i hi => ?_⟩
  rw [h6 i (by omega), el_take (by omega)]
theorem Ow.own {w : World} {B : Nat} {v : Value} {l : List Int} (h : w.ownsRow B 3 1 v l.length (l.map (Value.int .i64))) (hl : 0 < l.length) : ∃ g, Ow w B g v l := by
  rcases h.2 with ⟨_, h0⟩ | ⟨g, cap, cur, rfl, h1, h2, h3, h4, h5, h6⟩
  · omega
  · refine ⟨g, cap, cur, rfl, h1, h3, h4, h2, by omega, fun i hi => ?_⟩
    have e : (cur.toList.take (l.length * 1))[i]? = (l.map (Value.int .i64))[i]? := by rw [h6]
    rw [List.getElem?_take, if_pos (by omega), el_map .i64 hi] at e
    simpa using e
theorem Rw.ow {w : World} {B g : Nat} {l : List Int} (h : Rw w g l) (hg : B ≤ g) (hm : l.length ≤ maxLen) : Ow w B g (.slice (some ⟨g, 0, none⟩) l.length l.length) l := by
  refine ⟨_, _, rfl, hg, Nat.le_refl _, hm, h, by simp, fun i hi => ?_⟩
  have := el_map .i64 hi
  simpa using this

theorem trimmed_at (pa : Option Addr) (ca : Nat) (a : List Int) (w : World) (ha : Ls w (.slice pa a.length ca) a) (da : Dg a) (la : a.length ≤ 1000000) :
    Calls Tryd.prog 57 #[.slice pa a.length ca] w fun e w' => e = .returned (.slice pa (dg (vl a)).length ca) ∧ w = w' := by
  obtain ⟨pa', ca', heq, ⟨hca', hna⟩, hpa⟩ := ha
  obtain ⟨rfl, rfl⟩ : pa = pa' ∧ ca = ca' := by simpa using heq
  clear heq
  have hdone : ∀ n, n ≤ a.length → (∀ j, n ≤ j → el a j = 0) → (n = 0 ∨ el a (n - 1) ≠ 0) → Hid (a.take n = dg (vl a)) := fun n h1 h2 h3 => Lib.hid (trim_dg da n h1 h2 h3)
  go_enter Tryd.func57, Tryd.ntmps57
  go_wp2
  go_loopw [3] (fun i wr => ∃ (k : Nat), i = .int .i64 k ∧ k ≤ a.length ∧ (∀ j, k ≤ j → el a j = 0) ∧ w = wr)
    (fun i _ => (intOf i).toNat)
  case atStart => exact ⟨a.length, rfl, Nat.le_refl _, fun j hj => el_out hj, rfl⟩
  case round =>
    obtain ⟨k, rfl, hk, hz, rfl⟩ := hrel
    by_cases h0 : k = 0
    · subst h0
      have Ho := hdone 0 (by omega) hz (.inl rfl)
      clear hdone hz
      go_wp2
      refine bodyPost_ret (v := .slice pa 0 ca) (by simp [results, Tryd.results57, go_sem]) rfl ⟨?_, rfl⟩
      rw [← Ho.out]; simp
    · obtain ⟨ba, oa, rfl, hca⟩ := hpa (by omega)
      have hck := hca (k - 1) (by omega)
      have hd := hdone k hk hz
      obtain ⟨x, hx⟩ : ∃ x, el a (k - 1) = x := ⟨_, rfl⟩
      rw [hx] at hck hd
      by_cases x0 : x = 0
      · subst x0
        replace hx := Lib.hid hx
        clear hd hdone hca
        go_wp2
        go_roundw
        case rel =>
          refine ⟨k - 1, by congr 1; omega, by omega, fun j hj => ?_, trivial⟩
          rcases Nat.lt_or_ge j k with h | h
          · rw [show j = k - 1 by omega, hx.out]
          · exact hz j h
        case measure => simp [intOf]; omega
      · have Ho := hd (.inr x0)
        have hkc : k ≤ ca := by omega
        clear hd hdone hx hz
        go_wp2
        refine bodyPost_ret (v := .slice (some ⟨ba, oa, none⟩) k ca) (by simp [results, Tryd.results57, go_sem]) rfl ⟨?_, rfl⟩
        rw [← Ho.out, List.length_take, Nat.min_eq_left hk]
theorem Ow.trim {w : World} {B g cap : Nat} {l : List Int} (h : Ow w B g (.slice (some ⟨g, 0, none⟩) l.length cap) l) (hd : Dg l) (hn : ∃ n, n ≤ l.length ∧ l.take n = dg (vl l)) : Ow w B g (.slice (some ⟨g, 0, none⟩) (dg (vl l)).length cap) (dg (vl l)) := by
  obtain ⟨n, h1, h2⟩ := hn
  have e : (dg (vl l)).length = n := by rw [← h2, List.length_take]; omega
  rw [e, ← h2]; exact h.take h1
theorem trim_ex {l : List Int} (hd : Dg l) : ∀ n, n ≤ l.length → (∀ j, n ≤ j → el l j = 0) → ∃ m, m ≤ l.length ∧ l.take m = dg (vl l) := by
  intro n
  induction n with
  | zero => exact fun h1 h2 => ⟨0, h1, trim_dg hd 0 h1 h2 (.inl rfl)⟩
  | succ k ih =>
    intro h1 h2
    by_cases h0 : el l k = 0
    · refine ih (by omega) fun j hj => ?_
      rcases Nat.lt_or_ge k j with h | h
      · exact h2 j h
      · rw [show j = k by omega, h0]
    · exact ⟨k + 1, h1, trim_dg hd (k + 1) h1 h2 (.inr h0)⟩
/-- trimmed gives a slice over the same memory. -/
theorem trimmed_own (B g cap : Nat) (a : List Int) (w : World) (ha : Ow w B g (.slice (some ⟨g, 0, none⟩) a.length cap) a) (da : Dg a) (la : a.length ≤ 1000000) :
    Calls Tryd.prog 57 #[.slice (some ⟨g, 0, none⟩) a.length cap] w fun e w' => ∃ v, e = .returned v ∧ Ow w B g v (dg (vl a)) ∧ w = w' :=
  (trimmed_at _ _ a w ha.ls da la).mono fun _ _ ⟨he, hw⟩ => ⟨_, he, ha.trim da (trim_ex da _ (Nat.le_refl _) fun j hj => el_out hj), hw⟩
end Go.Proofs.YthhbnhdejbpjiaaDoor
