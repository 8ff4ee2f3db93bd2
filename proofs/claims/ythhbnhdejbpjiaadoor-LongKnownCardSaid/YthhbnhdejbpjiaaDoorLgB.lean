/-
  Walks of package long: valid, trimmed, compare, small, ofSmall.
-/
import Derived.Test.YthhbnhdejbpjiaaDoorRows
import Derived.Test.YthhbnhdejbpjiaaDoorLgM
import Derived.WalkKit
import Derived.WalkSpells
import Derived.WalkLawsBesides
import Derived.Lib.Hide
import Derived.IntWalk
import Derived.Deep.QuietTactic
import Derived.BigQuiet
import Derived.LoopN
import Derived.Deep.RegionHeld3
namespace Go.Proofs.YthhbnhdejbpjiaaDoor
open Go.RowKit

theorem lcell {W w1 : World} (hb : Below W.heap.size W w1) : (∀ b o, b < W.heap.size → w1.cell? ⟨b, o, none⟩ = W.cell? ⟨b, o, none⟩) ∧ (∀ b o, b < W.heap.size → w1.frozen? ⟨b, o, none⟩ = W.frozen? ⟨b, o, none⟩) :=
  ⟨fun b o h => hb.cell (p := ⟨b, o, none⟩) h, fun b o h => hb.frozen (p := ⟨b, o, none⟩) h⟩
theorem lkeep {w w' : World} {p : Addr} {v : Value} (hb : Below w.heap.size w w') (h : w.cell? p = some v) : w'.cell? p = some v :=
  (hb.cell (World.block_lt_of_cell? w p h)).trans h
theorem lfrz {w w' : World} {b o : Nat} (hb : Below w.heap.size w w') (hl : b < w.heap.size) (h : w.frozen? ⟨b, o, none⟩ = false) : w'.frozen? ⟨b, o, none⟩ = false :=
  (hb.frozen (p := ⟨b, o, none⟩) hl).trans h
/-- The slice value v holds the numbers l. -/
def Ls (w : World) (v : Value) (l : List Int) : Prop :=
  ∃ a cap, v = .slice a l.length cap ∧ (l.length ≤ cap ∧ (a = none → cap = 0)) ∧ (0 < l.length → ∃ b off, a = some ⟨b, off, none⟩ ∧ ∀ i, i < l.length → w.cell? ⟨b, off + i, none⟩ = some (.int .i64 (el l i)))
theorem Ls.keep {w w' : World} {v : Value} {l : List Int} (h : Ls w v l) (hb : Below w.heap.size w w') : Ls w' v l := by
  obtain ⟨a, cap, rfl, hl, hc⟩ := h
  refine ⟨a, cap, rfl, hl, fun hi => ?_⟩
  obtain ⟨b, off, rfl, h⟩ := hc hi
  exact ⟨b, off, rfl, fun i hi => (hb.cell (World.block_lt_of_cell? w _ (h i hi))).trans (h i hi)⟩
theorem Ls.own {w : World} {base : Nat} {e : TypeId} {v : Value} {l : List Int} (h : w.ownsRow base e 1 v l.length (l.map (Value.int .i64))) : Ls w v l := by
  have h' := h
  rcases h.2 with ⟨rfl, h0⟩ | ⟨g, cap, cur, rfl, _, _, hle, _⟩
  · have : l = [] := List.length_eq_zero_iff.1 h0
    subst this
    exact ⟨none, 0, rfl, ⟨Nat.le_refl _, fun _ => rfl⟩, fun hi => absurd hi (by simp)⟩
  · refine ⟨_, cap, rfl, ⟨hle, fun h => by cases h⟩, fun _ => ⟨_, _, rfl, fun i hi => ?_⟩⟩
    rw [Nat.zero_add, h'.cellAt i (by omega), el_map .i64 hi]
theorem Ls.nil (w : World) : Ls w (.slice none 0 0) [] := ⟨none, 0, rfl, ⟨Nat.le_refl _, fun _ => rfl⟩, fun h => absurd h (by simp)⟩
theorem Ls.take {w : World} {b off n cap : Nat} {l : List Int} (hl : n ≤ l.length) (hc : l.length ≤ cap) (h : ∀ i, i < l.length → w.cell? ⟨b, off + i, none⟩ = some (.int .i64 (el l i))) : Ls w (.slice (some ⟨b, off, none⟩) n cap) (l.take n) := by
  have e : (l.take n).length = n := by rw [List.length_take, Nat.min_eq_left hl]
  refine ⟨_, cap, by rw [e], ⟨by omega, fun h => by cases h⟩, fun _ => ⟨_, _, rfl, fun i hi => ?_⟩⟩
  rw [h i (by omega), el_take (by omega)]
theorem Ls.drop {w : World} {b off n cap : Nat} {l : List Int} (hl : n ≤ l.length) (hc : l.length ≤ cap) (h : ∀ i, i < l.length → w.cell? ⟨b, off + i, none⟩ = some (.int .i64 (el l i))) : Ls w (.slice (some ⟨b, off + n, none⟩) (l.length - n) (cap - n)) (l.drop n) := by
  have e : (l.drop n).length = l.length - n := by rw [List.length_drop]
  refine ⟨_, cap - n, by rw [e], ⟨by omega, fun h => by cases h⟩, fun _ => ⟨_, _, rfl, fun i hi => ?_⟩⟩
  rw [el_drop, ← h (n + i) (by omega), Nat.add_assoc]
/-- All digits are in their range, and the last is not 0. -/
def okD (l : List Int) : Bool := l.all (fun d => decide (0 ≤ d) && decide (d < 1000000000)) && (l.length == 0 || el l (l.length - 1) != 0)
theorem el_mem {l : List Int} {k : Nat} (hk : k < l.length) : el l k ∈ l := by
  rw [el_eq, List.getD_eq_getElem?_getD, List.getElem?_eq_getElem hk]; exact List.getElem_mem hk
theorem okD_no {l : List Int} {k : Nat} (hk : k < l.length) (h : ¬ (0 ≤ el l k ∧ el l k < 1000000000)) : okD l = false := by
  have : l.all (fun d => decide (0 ≤ d) && decide (d < 1000000000)) = false := by
    rw [List.all_eq_false]
    exact ⟨_, el_mem hk, by simp; omega⟩
  unfold okD; rw [this]; rfl
theorem okD_eq {l : List Int} (h : ∀ j, j < l.length → 0 ≤ el l j ∧ el l j < 1000000000) : okD l = (l.length == 0 || el l (l.length - 1) != 0) := by
  have : l.all (fun d => decide (0 ≤ d) && decide (d < 1000000000)) = true := by
    rw [List.all_eq_true]
    intro d hd
    obtain ⟨i, hi, rfl⟩ := List.getElem_of_mem hd
    have := h i hi
    rw [el_eq, List.getD_eq_getElem?_getD, List.getElem?_eq_getElem hi] at this
    simp at this; simp [this]
  unfold okD; rw [this]; rfl
theorem okD_iff (l : List Int) : okD l = true ↔ Dg l ∧ Nrm l := by
  constructor
  · intro h
    have hd : ∀ j, j < l.length → 0 ≤ el l j ∧ el l j < 1000000000 := by
      intro j hj
      by_cases c : 0 ≤ el l j ∧ el l j < 1000000000
      · exact c
      · rw [okD_no hj c] at h; cases h
    refine ⟨fun d hd' => ?_, ?_⟩
    · obtain ⟨i, hi, rfl⟩ := List.getElem_of_mem hd'
      have := hd i hi
      rw [el_eq, List.getD_eq_getElem?_getD, List.getElem?_eq_getElem hi] at this
      exact this
    · rw [okD_eq hd] at h
      rcases (by simpa using h : l = [] ∨ ¬ el l (l.length - 1) = 0) with h | h
      · exact .inl h
      · exact .inr h
  · rintro ⟨h, hn⟩
    rw [okD_eq fun j _ => h.el (by omega) j]
    rcases hn with rfl | hn
    · rfl
    · simp [hn]

theorem len_beq (n : Nat) : ((n : Int) == 0) = (n == 0) := by
  rw [Bool.eq_iff_iff]; simp
theorem valid_any (va : Value) (a : List Int) (w : World) (ha : Ls w va a) (la : a.length ≤ 1000000) :
    Calls Tryd.prog 32 #[va] w fun e w' => e = .returned (.bool (okD a)) ∧ w = w' := by
  obtain ⟨pa, ca, rfl, ⟨hca', hna⟩, hpa⟩ := ha
  have hno : ∀ k, k < a.length → (el a k < 0 ∨ 1000000000 ≤ el a k) → Hid (okD a = false) := fun k hk h => Lib.hid (okD_no hk (by omega))
  have hyes : (∀ j, j < a.length → 0 ≤ el a j ∧ el a j < 1000000000) → Hid (okD a = (a.length == 0 || el a (a.length - 1) != 0)) := fun h => Lib.hid (okD_eq h)
  go_enter Tryd.func32, Tryd.ntmps32
  go_wp2
  go_loopw [7] (fun i wr => ∃ (k : Nat), i = .int .i64 k ∧ k ≤ a.length ∧ (∀ j, j < k → 0 ≤ el a j ∧ el a j < 1000000000) ∧ w = wr)
    (fun i _ => a.length - (intOf i).toNat)
  case atStart => exact ⟨0, rfl, Nat.zero_le _, fun j hj => by omega, rfl⟩
  case round =>
    obtain ⟨k, rfl, hk, hj, rfl⟩ := hrel
    by_cases hk' : k < a.length
    · obtain ⟨ba, oa, rfl, hca⟩ := hpa (by omega)
      have hck := hca k hk'
      have hnk := hno k hk'
      obtain ⟨x, hx⟩ : ∃ x, el a k = x := ⟨_, rfl⟩
      rw [hx] at hck hnk
      replace hx := Lib.hid hx
      clear hno hca
      by_cases c0 : x < 0 ∨ 1000000000 ≤ x
      · have Ho := hnk c0
        clear hnk
        rcases c0 with c0 | c0
        · go_wp2
          go_ret
          exact ⟨by rw [Ho.out]; rfl, rfl⟩
        · have c1 : ¬ x < 0 := by omega
          go_wp2
          go_ret
          exact ⟨by rw [Ho.out]; rfl, rfl⟩
      · clear hnk
        have c1 : ¬ x < 0 := by omega
        have c2 : ¬ 1000000000 ≤ x := by omega
        go_wp2
        go_roundw
        case rel =>
          refine ⟨k + 1, by simp, by omega, fun j hj' => ?_, trivial⟩
          rcases Nat.lt_or_ge j k with h | h
          · exact hj j h
          · rw [show j = k by omega, hx.out]; omega
        case measure => simp [intOf]; omega
    · have hka : k = a.length := by omega
      subst hka
      have Ho := hyes hj
      clear hyes hno hj
      by_cases h0 : a.length = 0
      · have h0' : a = [] := List.length_eq_zero_iff.1 h0
        subst h0'
        go_wp2
        go_ret
        exact ⟨by rw [Ho.out]; rfl, rfl⟩
      · obtain ⟨ba, oa, rfl, hca⟩ := hpa (by omega)
        have hck := hca (a.length - 1) (by omega)
        obtain ⟨x, hx⟩ : ∃ x, el a (a.length - 1) = x := ⟨_, rfl⟩
        rw [hx] at hck Ho
        clear hca hx
        go_wp2
        go_ret
        exact ⟨by rw [Ho.out, ← len_beq]; rfl, rfl⟩

theorem trimmed_any (va : Value) (a : List Int) (w : World) (ha : Ls w va a) (da : Dg a) (la : a.length ≤ 1000000) :
    Calls Tryd.prog 57 #[va] w fun e w' => ∃ v, e = .returned v ∧ Ls w v (dg (vl a)) ∧ w = w' := by
  obtain ⟨pa, ca, rfl, ⟨hca', hna⟩, hpa⟩ := ha
  have hdone : ∀ n, n ≤ a.length → (∀ j, n ≤ j → el a j = 0) → (n = 0 ∨ el a (n - 1) ≠ 0) → Hid (a.take n = dg (vl a)) := fun n h1 h2 h3 => Lib.hid (trim_dg da n h1 h2 h3)
  go_enter Tryd.func57, Tryd.ntmps57
  go_wp2
  go_loopw [3] (fun i wr => ∃ (k : Nat), i = .int .i64 k ∧ k ≤ a.length ∧ (∀ j, k ≤ j → el a j = 0) ∧ w = wr)
    (fun i _ => (intOf i).toNat)
  case atStart => exact ⟨a.length, rfl, Nat.le_refl _, fun j hj => el_out hj, rfl⟩
  case round =>
    obtain ⟨k, rfl, hk, hz, rfl⟩ := hrel
    by_cases h0 : k = 0
    · subst h0
      have Ho := hdone 0 (by omega) hz (.inl rfl)
      clear hdone hz
      go_wp2
      refine bodyPost_ret (v := .slice pa 0 ca) (by simp [results, Tryd.results57, go_sem]) rfl ⟨_, rfl, ?_, rfl⟩
      rw [← Ho.out]
      exact ⟨pa, ca, rfl, ⟨Nat.zero_le _, hna⟩, fun h => absurd h (by simp)⟩
    · obtain ⟨ba, oa, rfl, hca⟩ := hpa (by omega)
      have hck := hca (k - 1) (by omega)
      have hd := hdone k hk hz
      obtain ⟨x, hx⟩ : ∃ x, el a (k - 1) = x := ⟨_, rfl⟩
      rw [hx] at hck hd
      by_cases x0 : x = 0
      · subst x0
        replace hx := Lib.hid hx
        clear hd hdone hca
        go_wp2
        go_roundw
        case rel =>
          refine ⟨k - 1, by congr 1; omega, by omega, fun j hj => ?_, trivial⟩
          rcases Nat.lt_or_ge j k with h | h
          · rw [show j = k - 1 by omega, hx.out]
          · exact hz j h
        case measure => simp [intOf]; omega
      · have Ho := hd (.inr x0)
        have hkc : k ≤ ca := by omega
        clear hd hdone hx hz
        go_wp2
        refine bodyPost_ret (v := .slice (some ⟨ba, oa, none⟩) k ca) (by simp [results, Tryd.results57, go_sem]) rfl ⟨_, rfl, ?_, rfl⟩
        rw [← Ho.out]
        exact Ls.take hk hca' hca

/-- -1, 0 or 1. -/
def cmpI (x y : Int) : Int := if x < y then -1 else if x = y then 0 else 1
theorem cmpI_lt {x y : Int} (h : x < y) : cmpI x y = -1 := if_pos h
theorem cmpI_eq {x y : Int} (h : x = y) : cmpI x y = 0 := by unfold cmpI; rw [if_neg (by omega), if_pos h]
theorem cmpI_gt {x y : Int} (h : y < x) : cmpI x y = 1 := by unfold cmpI; rw [if_neg (by omega), if_neg (by omega)]

theorem compare_any (va vb : Value) (a b : List Int) (w : World) (ha : Ls w va a) (hb : Ls w vb b) (da : Dg a) (db : Dg b) (na : Nrm a) (nb : Nrm b) (la : a.length ≤ 1000000) (lb : b.length ≤ 1000000) :
    Calls Tryd.prog 50 #[va, vb] w fun e w' => e = .returned (.int .i64 (cmpI (vl a) (vl b))) ∧ Below w.heap.size w w' := by
  obtain ⟨pa, ca, rfl, ⟨hca', hna⟩, hpa⟩ := ha
  obtain ⟨pb, cb, rfl, ⟨hcb', hnb⟩, hpb⟩ := hb
  by_cases hne : a.length = b.length
  · have hlt : ∀ i, i < a.length → vl (a.drop (i + 1)) = vl (b.drop (i + 1)) → el a i < el b i → Hid (cmpI (vl a) (vl b) = -1) := fun i hi e h => Lib.hid (cmpI_lt (drop_lt da db hne i hi e h))
    have hgt : ∀ i, i < a.length → vl (a.drop (i + 1)) = vl (b.drop (i + 1)) → el b i < el a i → Hid (cmpI (vl a) (vl b) = 1) := fun i hi e h => Lib.hid (cmpI_gt (drop_lt db da hne.symm i (by omega) e.symm h))
    have heq : vl a = vl b → Hid (cmpI (vl a) (vl b) = 0) := fun h => Lib.hid (cmpI_eq h)
    have hs : ∀ i, i < a.length → vl (a.drop (i + 1)) = vl (b.drop (i + 1)) → el a i = el b i → vl (a.drop i) = vl (b.drop i) := fun i hi e h => drop_eq i hi (by omega) e h
    have hf : vl (a.drop a.length) = vl (b.drop a.length) := by rw [List.drop_length, List.drop_eq_nil_of_le (by omega)]
    rw [← hne] at hpb hcb'
    rw [show b.length = a.length from hne.symm]
    clear hne da db na nb lb
    generalize cmpI (vl a) (vl b) = R at *
    go_enter Tryd.func50, Tryd.ntmps50
    go_wp2
    go_loopw [5] (fun i wr => ∃ (k : Nat), i = .int .i64 ((k : Int) - 1) ∧ k ≤ a.length ∧ Hid (vl (a.drop k) = vl (b.drop k)) ∧ Below w.heap.size w wr)
      (fun i _ => (intOf i + 1).toNat)
    case atStart => exact ⟨a.length, rfl, Nat.le_refl _, Lib.hid hf, Below.refl _ _⟩
    case round =>
      obtain ⟨k, rfl, hk, hd, hnx⟩ := hrel
      clear hf
      by_cases h0 : k = 0
      · subst h0
        have Ho := heq hd.out
        clear hlt hgt heq hs hd
        go_wp2
        go_ret
        exact ⟨by rw [Ho.out]; rfl, hnx⟩
      · obtain ⟨j, rfl⟩ : ∃ j, k = j + 1 := ⟨k - 1, by omega⟩
        obtain ⟨ba, oa, rfl, hxa⟩ := hpa (by omega)
        obtain ⟨bb, ob, rfl, hxb⟩ := hpb (by omega)
        have hx := lkeep hnx (hxa j (by omega))
        have hy := lkeep hnx (hxb j (by omega))
        have h1 := hlt j (by omega) hd.out
        have h2 := hgt j (by omega) hd.out
        have h3 := hs j (by omega) hd.out
        clear hlt hgt heq hs hd hxa hxb
        rw [show (((j + 1 : Nat) : Int) - 1) = (j : Int) by omega]
        obtain ⟨x, ex⟩ : ∃ x, el a j = x := ⟨_, rfl⟩
        obtain ⟨y, ey⟩ : ∃ y, el b j = y := ⟨_, rfl⟩
        rw [ex] at hx h1 h2 h3
        rw [ey] at hy h1 h2 h3
        clear ex ey
        rcases Int.lt_trichotomy x y with c | c | c
        · have Ho := h1 c
          clear h1 h2 h3
          have hne : ¬ x = y := by omega
          go_wp2
          go_quiet (fail)
          have hx2 : (wr.drewN nq).cell? ⟨ba, oa + j, none⟩ = some (.int .i64 x) := hx
          have hy2 : (wr.drewN nq).cell? ⟨bb, ob + j, none⟩ = some (.int .i64 y) := hy
          go_wp2
          go_quiet (fail)
          go_wp2
          go_ret
          exact ⟨by rw [Ho.out]; rfl, by (repeat (first | with_reducible exact Below.refl _ _ | with_reducible assumption | refine Below.alloc ?_ (by (try simp); try omega) _ | refine Below.setCell ?_ (by (try simp); try omega) _ | refine below_drewN ?_ _ | refine Below.drew ?_ | (with_reducible refine Below.trans ?_ (Below.mono (by assumption) (by (try simp); try omega)))))⟩
        · subst c
          replace h3 := h3 rfl
          replace h3 := Lib.hid h3
          clear h1 h2
          go_wp2
          go_quiet (fail)
          go_wp2
          go_roundw
          case rel => exact ⟨j, by simp, by omega, h3, by (repeat (first | with_reducible exact Below.refl _ _ | with_reducible assumption | refine Below.alloc ?_ (by (try simp); try omega) _ | refine Below.setCell ?_ (by (try simp); try omega) _ | refine below_drewN ?_ _ | refine Below.drew ?_ | (with_reducible refine Below.trans ?_ (Below.mono (by assumption) (by (try simp); try omega)))))⟩
          case measure => simp [intOf]
        · have Ho := h2 c
          clear h1 h2 h3
          have hne : ¬ x = y := by omega
          have hnl : ¬ x < y := by omega
          go_wp2
          go_quiet (fail)
          have hx2 : (wr.drewN nq).cell? ⟨ba, oa + j, none⟩ = some (.int .i64 x) := hx
          have hy2 : (wr.drewN nq).cell? ⟨bb, ob + j, none⟩ = some (.int .i64 y) := hy
          go_wp2
          go_quiet (fail)
          go_wp2
          go_ret
          exact ⟨by rw [Ho.out]; rfl, by (repeat (first | with_reducible exact Below.refl _ _ | with_reducible assumption | refine Below.alloc ?_ (by (try simp); try omega) _ | refine Below.setCell ?_ (by (try simp); try omega) _ | refine below_drewN ?_ _ | refine Below.drew ?_ | (with_reducible refine Below.trans ?_ (Below.mono (by assumption) (by (try simp); try omega)))))⟩
  · by_cases hl : a.length < b.length
    · rw [cmpI_lt (shorter da db nb hl)]
      clear da db na nb
      go_enter Tryd.func50, Tryd.ntmps50
      go_wp2
      go_ret
      exact ⟨rfl, Below.refl _ _⟩
    · rw [cmpI_gt (shorter db da na (by omega))]
      clear da db na nb
      go_enter Tryd.func50, Tryd.ntmps50
      go_wp2
      go_ret
      exact ⟨rfl, Below.refl _ _⟩
theorem compare_num (va vb : Value) (x y : Int) (w : World) (x0 : 0 ≤ x) (y0 : 0 ≤ y) (ha : Ls w va (dg x)) (hb : Ls w vb (dg y)) (la : (dg x).length ≤ 1000000) (lb : (dg y).length ≤ 1000000) :
    Calls Tryd.prog 50 #[va, vb] w fun e w' => e = .returned (.int .i64 (cmpI x y)) ∧ Below w.heap.size w w' := by
  have := compare_any va vb (dg x) (dg y) w ha hb (dg_dig x x0) (dg_dig y y0) (dg_nrm x x0) (dg_nrm y y0) la lb
  rwa [dg_val x x0, dg_val y y0] at this

theorem small_any (va : Value) (x : Int) (w : World) (x0 : 0 ≤ x) (x1 : x < 1000000000000000000) (ha : Ls w va (dg x)) :
    Calls Tryd.prog 60 #[va] w fun e w' => e = .returned (.int .i64 x) ∧ Below w.heap.size w w' := by
  obtain ⟨pa, ca, rfl, ⟨hca', hna⟩, hpa⟩ := ha
  by_cases h0 : x = 0
  · subst h0
    rw [dg_zero] at *
    go_enter Tryd.func60, Tryd.ntmps60
    go_wp2
    go_ret
    exact ⟨rfl, Below.refl _ _⟩
  · by_cases h1 : x < 1000000000
    · rw [dg_small (by omega) h1] at *
      obtain ⟨ba, oa, rfl, hxa⟩ := hpa (by simp)
      have hx := hxa 0 (by simp)
      simp only [el, List.getD_cons_zero, Nat.add_zero] at hx
      clear hpa hxa
      go_enter Tryd.func60, Tryd.ntmps60
      go_wp2
      go_ret
      exact ⟨rfl, Below.refl _ _⟩
    · rw [dg_two (by omega) (by omega)] at *
      obtain ⟨ba, oa, rfl, hxa⟩ := hpa (by simp)
      have hx := hxa 0 (by simp)
      have hy := hxa 1 (by simp)
      simp only [el, List.getD_cons_zero, List.getD_cons_succ, Nat.add_zero] at hx hy
      obtain ⟨p, hp⟩ : ∃ p, x % 1000000000 = p := ⟨_, rfl⟩
      obtain ⟨q, hq⟩ : ∃ q, x / 1000000000 = q := ⟨_, rfl⟩
      have hpq : q * 1000000000 + p = x := by omega
      have bp : 0 ≤ p ∧ p < 1000000000 := by omega
      have bq : 0 ≤ q ∧ q < 1000000000 := by omega
      rw [hp] at hx
      rw [hq] at hy
      rw [hp, hq]
      replace hpq := Lib.hid hpq
      clear hp hq hpa hxa h0 h1 hca'
      go_enter Tryd.func60, Tryd.ntmps60
      go_wp2
      go_quiet (fail)
      go_wp2
      go_ret
      exact ⟨by rw [← hpq.out]; rfl, by (repeat (first | with_reducible exact Below.refl _ _ | with_reducible assumption | refine Below.alloc ?_ (by (try simp); try omega) _ | refine Below.setCell ?_ (by (try simp); try omega) _ | refine below_drewN ?_ _ | refine Below.drew ?_ | (with_reducible refine Below.trans ?_ (Below.mono (by assumption) (by (try simp); try omega)))))⟩

theorem ofSmall_any (n : Int) (w : World) (n0 : 0 ≤ n) (n1 : n < 1000000000000000000) :
    Calls Tryd.prog 58 #[.int .i64 n] w fun e w' => ∃ v, e = .returned v ∧ Ls w' v (dg n) ∧ Below w.heap.size w w' := by
  obtain ⟨p, hp⟩ : ∃ p, n % 1000000000 = p := ⟨_, rfl⟩
  obtain ⟨q, hq⟩ : ∃ q, n / 1000000000 = q := ⟨_, rfl⟩
  have bp : 0 ≤ p ∧ p < 1000000000 := by omega
  have bq : 0 ≤ q ∧ q < 1000000000 := by omega
  have hpq : vl [p, q] = n := by simp only [vl, val]; omega
  have hc : ∀ w' : World, Ls w' (.slice (some ⟨w.heap.size, 0, none⟩) 2 2) [p, q] → _ := fun w' h => trimmed_any _ [p, q] w' h (Dig.cons bp.1 bp.2 (Dig.one bq.1 bq.2)) (by simp)
  rw [hpq] at hc
  replace hpq := Lib.hid hpq
  go_enter Tryd.func58, Tryd.ntmps58
  go_wp2_with fail
  go_at_call 57
  refine (hc _ ?_).mono ?_
  · refine ⟨_, 2, rfl, ⟨Nat.le_refl _, fun h => by cases h⟩, fun _ => ⟨_, _, rfl, fun i hi => ?_⟩⟩
    match i, hi with
    | 0, _ => simp [el]
    | 1, _ => simp [el]
  rintro e w1 ⟨v, rfl, hs, rfl⟩
  clear hc
  go_wp2
  go_ret
  exact ⟨v, rfl, hs, by (repeat (first | with_reducible exact Below.refl _ _ | with_reducible assumption | refine Below.alloc ?_ (by (try simp); try omega) _ | refine Below.setCell ?_ (by (try simp); try omega) _ | refine below_drewN ?_ _ | refine Below.drew ?_ | (with_reducible refine Below.trans ?_ (Below.mono (by assumption) (by (try simp); try omega)))))⟩
end Go.Proofs.YthhbnhdejbpjiaaDoor
