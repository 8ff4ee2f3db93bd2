/-
  The reference's power of a number that is not negative: its digits, products of lists of digits, the power.
-/
import Derived.Test.YtabnpidmhmebfaaGreatDoorSl
import Derived.Test.YtabnpidmhmebfaaGreatDoorFixA
import Derived.Lib.Hide
import Derived.Test.YtabnpidmhmebfaaGreatDoorFixE
import Derived.IntWalk
import Derived.Deep.QuietTactic
import Derived.BigQuiet
import Derived.Test.YtabnpidmhmebfaaGreatDoorFixI
namespace Go.Proofs.YtabnpidmhmebfaaGreatDoor
open Go.RowKit

set_option maxRecDepth 100000 in
set_option maxHeartbeats 1600000 in
theorem rParts_any (n : Int) (w : World) (n0 : 0 ≤ n) (n1 : n ≤ 4503599627370496) :
    Calls Tryz.prog 89 #[.int .i64 n] w fun e w' => ∃ v l, e = .returned v ∧ Dig 65536 l ∧ val 65536 l = n ∧ l.length ≤ 4 ∧ Sl .i64 w' v l ∧ Below w.heap.size w w' := by
  obtain ⟨i0, hi, hz0, hz1, hz2⟩ := info_parts Tryz.infoInt
  go_enter Tryz.func89, Tryz.ntmps89
  go_wp2
  go_loopw [0, 3] (fun n' v wr => ∃ (m : Int) (l : List Int) (k : Nat), n' = .int .i64 m ∧ 0 ≤ m ∧ m ≤ n ∧ m < 65536 ^ k ∧ l.length + k = 4 ∧ Dig 65536 l ∧ Hid (val 65536 l + 65536 ^ l.length * m = n) ∧ wr.ownsRow w.heap.size 3 1 v l.length (l.map (Value.int .i64)) ∧ Below w.heap.size w wr)
    (fun n' _ _ => (intOf n').toNat)
  case atStart => exact ⟨n, [], 4, rfl, n0, Int.le_refl _, by omega, rfl, Dig.nil _, Lib.hid (by simp [val]), World.ownsRow_nil _ _ _ _, Below.refl _ _⟩
  case round =>
    obtain ⟨m, l, k, rfl, m0, m1, mk, lk, hd, hv, hown, hnx⟩ := hrel
    go_wp2_with (at_builtin; refine wpList_append_own _ rfl _ _ 96 rfl (w.heap.size) 3 i0 (.int .i64 0) 1 8 Tryz.underlying96 hi hz0 hz1 hz2 rfl (by decide) _ _ _ rfl (hown.alloc _) ⟨wr.heap.size, 0, none⟩ 1 1 [.int .i64 (m % 65536)] rfl rfl (one_at _ _ _) (one_cell _ _) (by unfold maxLen; omega) (by omega) (by have := hnx.size; simp; omega) ?_)
    · intro v' w1 hown' hgrow _
      have hm : 0 < m := by assumption
      obtain ⟨k', rfl⟩ : ∃ k', k = k' + 1 := by
        cases k with
        | zero => simp at mk; omega
        | succ k => exact ⟨k, rfl⟩
      have hb := (hnx.alloc hnx.size (.cells #[.int .i64 (m % 65536)] 3)).grown hgrow (by have := hnx.size; simp; omega) (fun k hk => (hown.lt k hk).1)
      clear hown hgrow hnx
      go_wp2
      go_roundw
      case rel =>
        refine ⟨m / 65536, l ++ [m % 65536], k', rfl, by omega, by omega, ?_, by simp; omega, hd.snoc (by omega) (by omega), ?_, by rw [List.length_append, List.map_append]; exact hown', hb⟩
        · rw [Int.pow_succ] at mk; omega
        · have e := hv.out
          refine Lib.hid ?_
          rw [val_append, List.length_append, List.length_singleton, Int.pow_succ, val_cons, val_nil, ← e]
          have e2 := Int.mul_ediv_add_emod m 65536
          generalize 65536 ^ l.length = P
          generalize m / 65536 = q at *
          generalize m % 65536 = r at *
          rw [← e2]; grind
      case measure => simp [intOf]; omega
    · have hm : m ≤ 0 := by assumption
      have : m = 0 := by omega
      subst this
      go_ret
      exact ⟨_, l, rfl, hd, by have e := hv.out; rw [Int.mul_zero, Int.add_zero] at e; exact e, by omega, Sl.own hown, hnx⟩

/-- One step of the product: the digit and what is carried. -/
theorem prod_step {B O C p q c S P : Int} (_hB : 0 < B) (hv : O + C * P = S) (n : Int) (hn : n = q + p + C) (c0 : c = n / B) :
    O + P * (n % B - q) + c * (P * B) = S + P * p := by
  have e := Int.mul_ediv_add_emod n B
  subst c0
  rw [← hv]
  generalize n / B = x at *
  generalize n % B = r at *
  have : r = q + p + C - B * x := by omega
  subst this; grind

set_option maxRecDepth 100000 in
set_option maxHeartbeats 4000000 in
theorem rProd_any (va vb : Value) (a b : List Int) (w : World) (ha : Sl .i64 w va a) (hb : Sl .i64 w vb b) (da : Dig 65536 a) (db : Dig 65536 b) (la : a.length ≤ 100) (lb : b.length ≤ 100) :
    Calls Tryz.prog 88 #[va, vb] w fun e w' => ∃ v l, e = .returned v ∧ Dig 65536 l ∧ val 65536 l = val 65536 a * val 65536 b ∧ l.length = a.length + b.length ∧ Sl .i64 w' v l ∧ Below w.heap.size w w' := by
  obtain ⟨i0, hi, hz0, hz1, hz2⟩ := info_parts Tryz.infoInt
  obtain ⟨pa, ca, rfl, hpa⟩ := ha
  obtain ⟨pb, cb, rfl, hpb⟩ := hb
  go_enter Tryz.func88, Tryz.ntmps88
  go_wp2_with (refine wpList_make_full _ rfl (.tmp 14) (.tmp 14) 96 rfl w.heap.size 3 i0 (.int .i64 0) 1 Tryz.underlying96 hi hz0 hz1 .i64 .i64 ((a.length : Int) + (b.length : Int)) ((a.length : Int) + (b.length : Int)) (a.length + b.length) rfl rfl (by omega) (by omega) (by rw [hz2]; omega) (by unfold maxLen; omega) (Nat.le_refl _) ?_)
  intro w1 hown hgrow
  rw [toList_madeCells_one, show List.replicate (a.length + b.length) (Value.int IntKind.i64 0) = (List.replicate (a.length + b.length) (0 : Int)).map (.int .i64) by simp] at hown
  have hnx : Below w.heap.size w w1 := (Below.refl _ _).grown hgrow (Nat.le_refl _) (fun k hk => by cases hk)
  clear hgrow
  go_wp2
  go_loopw [6] (fun i wr => ∃ (k : Nat) (O : List Int), i = .int .i64 k ∧ k ≤ a.length ∧ O.length = a.length + b.length ∧ Dig 65536 O ∧ Hid (val 65536 O = val 65536 (a.take k) * val 65536 b) ∧ (∀ j, k + b.length ≤ j → el O j = 0) ∧ wr.ownsRow w.heap.size 3 1 (.slice (some ⟨w.heap.size, 0, none⟩) (a.length + b.length) (a.length + b.length)) (a.length + b.length) (O.map (Value.int .i64)) ∧ Below w.heap.size w wr)
    (fun i _ => a.length - (intOf i).toNat)
  case atStart =>
    refine ⟨0, List.replicate (a.length + b.length) 0, rfl, Nat.zero_le _, by simp, Dig.zeros (by omega) _, Lib.hid (by rw [val_zeros]; simp [val]), fun j _ => ?_, hown, hnx⟩
    rw [el_eq, List.getD_eq_getElem?_getD, List.getElem?_replicate]; split <;> rfl
  case round =>
    clear hown hnx
    obtain ⟨k, O, rfl, hk, hO, hd, hv, hz, hown, hnx⟩ := hrel
    go_wp2
    · have hk' : k < a.length := by omega
      go_loopw [7, 8] (fun c jj wr => ∃ (j : Nat) (x : Int) (O : List Int), jj = .int .i64 j ∧ j ≤ b.length ∧ c = .int .i64 x ∧ 0 ≤ x ∧ x < 65536 ∧ O.length = a.length + b.length ∧ Dig 65536 O ∧ Hid (val 65536 O + x * 65536 ^ (k + j) = val 65536 (a.take k) * val 65536 b + 65536 ^ k * (el a k * val 65536 (b.take j))) ∧ (∀ j, k + b.length ≤ j → el O j = 0) ∧ wr.ownsRow w.heap.size 3 1 (.slice (some ⟨w.heap.size, 0, none⟩) (a.length + b.length) (a.length + b.length)) (a.length + b.length) (O.map (Value.int .i64)) ∧ Below w.heap.size w wr)
        (fun _ jj _ => b.length - (intOf jj).toNat)
      case atStart => exact ⟨0, 0, O, rfl, Nat.zero_le _, rfl, Int.le_refl _, by omega, hO, hd, Lib.hid (by have e := hv.out; simp [val, e]), hz, hown, hnx⟩
      case round =>
        clear hown hnx hd hv hz hO
        obtain ⟨j, x, O, rfl, hj, rfl, x0, x1, hO, hd, hv, hz, hown, hnx⟩ := hrel
        have hcx : wr.cell? ⟨w.heap.size, k + b.length, none⟩ = some (.int .i64 (el O (k + b.length))) := by rw [hown.cellAt _ (by omega), el_map _ (by omega)]
        have hfx := hown.frozenAt (k + b.length)
        go_wp2
        · have hj' : j < b.length := by omega
          obtain ⟨ba, oa, rfl, hca⟩ := hpa (by omega)
          obtain ⟨bb, ob, rfl, hcb⟩ := hpb (by omega)
          have hcp := bkeep hnx (hca k hk')
          have hcq := bkeep hnx (hcb j hj')
          have hco : wr.cell? ⟨w.heap.size, k + j, none⟩ = some (.int .i64 (el O (k + j))) := by rw [hown.cellAt _ (by omega), el_map _ (by omega)]
          have hfo := hown.frozenAt (k + j)
          have bp := da.el (by omega) k
          have bq := db.el (by omega) j
          have bo := hd.el (by omega) (k + j)
          obtain ⟨p, hp⟩ : ∃ p, el a k = p := ⟨_, rfl⟩
          obtain ⟨q, hq⟩ : ∃ q, el b j = q := ⟨_, rfl⟩
          obtain ⟨o, ho⟩ : ∃ o, el O (k + j) = o := ⟨_, rfl⟩
          obtain ⟨P, hP⟩ : ∃ P, p * q = P := ⟨_, rfl⟩
          rw [hp] at bp hcp
          rw [hq] at bq hcq
          rw [ho] at bo hco
          have bP : 0 ≤ P ∧ P ≤ 4294836225 := by
            subst hP
            exact ⟨Int.mul_nonneg bp.1 bq.1, by have := Int.mul_le_mul (show p ≤ 65535 by omega) (show q ≤ 65535 by omega) bq.1 (by omega : (0 : Int) ≤ 65535); omega⟩
          have e1 : IntKind.i64.wrap (p * q) = P := by rw [hP]; exact IntWalk.i64_in _ (by omega)
          replace hp := Lib.hid hp
          replace hq := Lib.hid hq
          replace ho := Lib.hid ho
          replace hP := Lib.hid hP
          clear hca hcb hpa hpb
          go_quiet (fail)
          go_wp2
          go_roundw
          case rel =>
            have hown2 : (wr.drewN nq).ownsRow w.heap.size 3 1 (.slice (some ⟨w.heap.size, 0, none⟩) (a.length + b.length) (a.length + b.length)) (a.length + b.length) (O.map (Value.int .i64)) := ownsRow_drewN hown nq
            refine ⟨j + 1, (o + P + x) / 65536, O.set (k + j) ((o + P + x) % 65536), by simp, by omega, rfl, by omega, by omega, by simp [hO], hd.set _ (by omega) (by omega), Lib.hid ?_, fun i hi => ?_, ?_, by (repeat (first | with_reducible exact Below.refl _ _ | with_reducible assumption | refine Below.alloc ?_ (by (try simp); try omega) _ | refine Below.setCell ?_ (by (try simp); try omega) _ | refine below_drewN ?_ _ | refine Below.drew ?_ | (with_reducible refine Below.trans ?_ (Below.mono (by assumption) (by (try simp); try omega)))))⟩
            · rw [val_set _ _ _ _ (by omega), val_take_succ _ _ _ hj', ← Nat.add_assoc, Int.pow_succ 65536 (k + j)]
              have e := prod_step (B := 65536) (p := P) (q := o) (by omega) hv.out (o + P + x) rfl rfl
              rw [← el_eq, ho.out, ← el_eq, hq.out, e, ← hP.out, ← hp.out, Int.pow_add]; grind
            · rw [el_set_ne _ _ _ _ (by omega)]; exact hz i hi
            · rw [List.map_set]; exact (hown2.stored (k + j) _).1
          case measure => simp [intOf]; omega
        · have hjb : j = b.length := by omega
          subst hjb
          go_roundw
          case rel =>
            refine ⟨k + 1, O.set (k + b.length) x, by simp, by omega, by simp [hO], hd.set _ x0 x1, Lib.hid ?_, fun i hi => ?_, ?_, by (repeat (first | with_reducible exact Below.refl _ _ | with_reducible assumption | refine Below.alloc ?_ (by (try simp); try omega) _ | refine Below.setCell ?_ (by (try simp); try omega) _ | refine below_drewN ?_ _ | refine Below.drew ?_ | (with_reducible refine Below.trans ?_ (Below.mono (by assumption) (by (try simp); try omega)))))⟩
            · rw [val_set _ _ _ _ (by omega), val_take_succ _ _ _ hk', ← el_eq, hz _ (by omega), ← el_eq]
              have e := hv.out
              rw [List.take_length] at e
              rw [Int.sub_zero, Int.mul_comm _ x, e]; grind
            · rw [el_set_ne _ _ _ _ (by omega)]; exact hz i (by omega)
            · rw [List.map_set]; exact (hown.stored (k + b.length) _).1
          case measure => simp [intOf]; omega
    · have hka : k = a.length := by omega
      subst hka
      go_ret
      exact ⟨_, O, rfl, hd, by have e := hv.out; rwa [List.take_length] at e, hO, Sl.own (by rw [hO]; exact hown), hnx⟩

/-- The power of a number, rounded. -/
def rR (up : Bool) (v n : Int) : Int := rq up (v ^ n.toNat) (4294967296 ^ (n.toNat - 1))
def okF (x : Int) : Bool := decide (-4503599627370496 ≤ x ∧ x ≤ 4503599627370496)
theorem okF_true {x : Int} (h : okF x = true) : -4503599627370496 ≤ x ∧ x ≤ 4503599627370496 := of_decide_eq_true h
theorem okF_false {x : Int} (h : okF x = false) : ¬ (-4503599627370496 ≤ x ∧ x ≤ 4503599627370496) := of_decide_eq_false h
theorem okF_nonneg {x : Int} (h : 0 ≤ x) : okF x = decide (x ≤ 4503599627370496) := by
  unfold okF
  by_cases c : 4503599627370496 < x
  · rw [decide_eq_false (by omega), decide_eq_false (by omega)]
  · rw [decide_eq_true (by omega), decide_eq_true (by omega)]
theorem den_pos (n : Int) : (0 : Int) < 4294967296 ^ (n.toNat - 1) := Int.pow_pos (by omega)
theorem den_pos' (N : Nat) : (0 : Int) < 4294967296 ^ (N - 1) := Int.pow_pos (by omega)

theorem den_eq (N : Nat) : (4294967296 : Int) ^ (N - 1) = 65536 ^ (2 * (N - 1)) := by
  rw [Int.pow_mul]; rfl
/-- What the digits of a power tell. -/
theorem pow_digits (v : Int) (N : Nat) (L : List Int) (up : Bool) (hd : Dig 65536 L) (hv : val 65536 L = v ^ N) :
    rR up v N = if up && decide (0 < val 65536 (L.take (2 * (N - 1)))) then val 65536 (L.drop (2 * (N - 1))) + 1 else val 65536 (L.drop (2 * (N - 1))) := by
  obtain ⟨e1, e2⟩ := val_drop (B := 65536) (by omega) hd (2 * (N - 1))
  rw [e1, e2, hv, ← den_eq]
  unfold rR
  rw [show ((N : Int)).toNat = N by omega, ← rdiv_rq _ _ _ (den_pos' N)]
  unfold rdiv
  cases up <;> simp
theorem take_min (L : List Int) (s k : Nat) (h : k = s ∨ (k = L.length ∧ L.length ≤ s)) : L.take k = L.take s ∧ L.drop k = L.drop s := by
  rcases h with rfl | ⟨rfl, h⟩
  · exact ⟨rfl, rfl⟩
  · rw [List.take_of_length_le (Nat.le_refl _), List.take_of_length_le h, List.drop_eq_nil_of_le (Nat.le_refl _), List.drop_eq_nil_of_le h]; exact ⟨rfl, rfl⟩
theorem drop_big (L : List Int) (s j : Nat) (hd : Dig 65536 L) (h : s < j) (hj : j ≤ L.length) (hx : 68719476736 < val 65536 (L.drop j)) : 4503599627370496 < val 65536 (L.drop s) := by
  induction j with
  | zero => omega
  | succ j ih =>
    have e := val_drop_pred 65536 L j (by omega)
    have b := hd.getD (by omega : (0 : Int) < 65536) j
    by_cases hs : s = j
    · subst hs; omega
    · exact ih (by omega) (by omega) (by omega)

/-- What a rounded power returns: the number, and whether it fits. -/
def RP (R : Int) (e : Ending) : Prop := ∃ out f, e = .returned (.tuple #[.int .i64 out, .bool f]) ∧ f = okF R ∧ (f = true → out = R) ∧ -9007199254740992 ≤ out ∧ out ≤ 9007199254740992

set_option maxRecDepth 100000 in
set_option maxHeartbeats 4000000 in
theorem rPower_any (v : Int) (N : Nat) (up : Bool) (w : World) (v0 : 0 ≤ v) (v1 : v ≤ 4503599627370496) (n1 : 1 ≤ N) (n16 : N ≤ 16) :
    Calls Tryz.prog 77 #[.int .i64 v, .int .i64 (N : Int), .bool up] w fun e w' => RP (rR up v N) e ∧ Below w.heap.size w w' := by
  go_enter Tryz.func77, Tryz.ntmps77
  go_wp2
  go_loopw [8, 9] (fun lv i wr => ∃ (k : Nat) (L : List Int), i = .int .i64 k ∧ k ≤ N ∧ Dig 65536 L ∧ Hid (val 65536 L = v ^ k) ∧ L.length ≤ 1 + 4 * k ∧ Sl .i64 wr lv L ∧ Below w.heap.size w wr)
    (fun _ i _ => N - (intOf i).toNat)
  case atStart =>
    refine ⟨0, [1], rfl, Nat.zero_le _, Dig.one (by omega) (by omega), Lib.hid (by simp [val]), by simp, ⟨_, _, rfl, fun _ => ⟨_, _, rfl, fun i hi => ?_⟩⟩, by (repeat (first | with_reducible exact Below.refl _ _ | with_reducible assumption | refine Below.alloc ?_ (by (try simp); try omega) _ | refine Below.setCell ?_ (by (try simp); try omega) _ | refine below_drewN ?_ _ | refine Below.drew ?_ | (with_reducible refine Below.trans ?_ (Below.mono (by assumption) (by (try simp); try omega)))))⟩
    have : i = 0 := by simpa using hi
    subst this
    simp [el]
  case round =>
    obtain ⟨k, L, rfl, hk, hd, hv, hl, hs, hnx⟩ := hrel
    go_wp2_with (first
      | (go_at_call 89; refine (rParts_any v _ v0 v1).mono ?_; rintro e w1 ⟨vp, lp, rfl, dp, ep, lp4, sp, hb1⟩)
      | (go_at_call 88; refine (rProd_any _ _ L lp _ (hs.keep hb1) sp hd dp (by omega) (by omega)).mono ?_; rintro e w2 ⟨v', l', rfl, d', e', len', s', hb2⟩))
    · go_roundw
      case rel => exact ⟨k + 1, l', by simp, by omega, d', Lib.hid (by rw [e', hv.out, ep, Int.pow_succ]), by omega, s', hnx.trans ((hb1.trans (hb2.mono hb1.size)).mono hnx.size)⟩
      case measure => simp [intOf]; omega
    · obtain rfl : N = k := by omega
      obtain ⟨pL, cL, rfl, hpL⟩ := hs
      go_loopw [10, 11] (fun rv i w2 => ∃ (j : Nat), i = .int .i64 j ∧ j ≤ 2 * (N - 1) ∧ j ≤ L.length ∧ rv = .bool (decide (0 < val 65536 (L.take j))) ∧ w2 = wr)
        (fun _ i _ => L.length - (intOf i).toNat)
      case atStart => exact ⟨0, rfl, Nat.zero_le _, Nat.zero_le _, by simp [val], rfl⟩
      case round =>
        obtain ⟨k, rfl, hk1, hk2, rfl, rfl⟩ := hrel
        by_cases h1 : (k : Int) < 2 * ((N : Int) - 1)
        · by_cases h2 : k < L.length
          · obtain ⟨bL, oL, rfl, hcL⟩ := hpL (by omega)
            have hc := hcL k h2
            have bk := hd.el (by omega) k
            obtain ⟨d, hdk⟩ : ∃ d, el L k = d := ⟨_, rfl⟩
            rw [hdk] at hc bk
            have hn := val_nonneg (B := 65536) (by omega) (hd.take k)
            have hp := pow_pos' (B := 65536) (by omega) k
            have hnext : decide (0 < val 65536 (L.take (k + 1))) = (decide (0 < val 65536 (L.take k)) || decide (0 < d)) := by
              rw [val_take_succ _ _ _ h2, ← el_eq, hdk]
              by_cases c : 0 < d
              · have := Int.mul_pos hp c
                rw [decide_eq_true c, Bool.or_true, decide_eq_true (by omega)]
              · rw [show d = 0 by omega, Int.mul_zero, Int.add_zero, decide_eq_false (show ¬ (0 : Int) < 0 by omega), Bool.or_false]
            replace hnext := Lib.hid hnext
            clear hdk hn hp hcL hpL
            obtain ⟨r, hr⟩ : ∃ r, decide (0 < val 65536 (L.take k)) = r := ⟨_, rfl⟩
            rw [hr] at hnext ⊢
            clear hr
            cases r <;> go_wp2
            all_goals
              go_roundw
              case rel => exact ⟨k + 1, by simp, by omega, by omega, by rw [hnext.out]; simp, by first | rfl | trivial⟩
              case measure => simp [intOf]; omega
          · have hks : k = 2 * (N - 1) ∨ (k = L.length ∧ L.length ≤ 2 * (N - 1)) := by omega
            obtain ⟨et, ed⟩ := take_min L (2 * (N - 1)) k hks
            have hR := pow_digits v N L up hd hv.out
            rw [← et] at hR
            obtain ⟨r, hr⟩ : ∃ r, decide (0 < val 65536 (L.take k)) = r := ⟨_, rfl⟩
            rw [hr] at hR ⊢
            replace hR := Lib.hid hR
            clear hr et ed hks
            go_wp2
            go_loopw [12, 13] (fun ov i w3 => ∃ (j : Nat) (x : Int), i = .int .i64 ((j : Int) - 1) ∧ j ≤ L.length ∧ (2 * (N - 1) ≤ j ∨ j = L.length) ∧ ov = .int .i64 x ∧ 0 ≤ x ∧ x ≤ 4503599627436031 ∧ Hid (x = val 65536 (L.drop j)) ∧ w3 = wr)
              (fun _ i _ => ((intOf i) + 1).toNat)
            case atStart => exact ⟨L.length, 0, rfl, Nat.le_refl _, Or.inr rfl, rfl, Int.le_refl _, by omega, Lib.hid (by rw [List.drop_length]; rfl), rfl⟩
            case round =>
              obtain ⟨j, x, rfl, hj, hs, rfl, x0, x1, hx, rfl⟩ := hrel
              by_cases h3 : 2 * ((N : Int) - 1) ≤ (j : Int) - 1
              · obtain ⟨m, rfl⟩ : ∃ m, j = m + 1 := ⟨j - 1, by omega⟩
                have ei : ((m + 1 : Nat) : Int) - 1 = (m : Int) := by omega
                rw [ei] at h3 ⊢
                by_cases h4 : 68719476736 < x
                · have hbig := drop_big L (2 * (N - 1)) (m + 1) hd (by omega) hj (by rw [← hx.out]; exact h4)
                  have hof : okF (rR up v N) = false := by
                    rw [hR.out]
                    refine decide_eq_false ?_
                    split <;> omega
                  replace hof := Lib.hid hof
                  clear hbig
                  go_wp2
                  go_ret2
                  exact ⟨⟨0, false, rfl, hof.out.symm, (fun h => absurd h (by decide)), by omega, by omega⟩, hnx⟩
                · obtain ⟨bL, oL, rfl, hcL⟩ := hpL (by omega)
                  have hc := hcL m (by omega)
                  have bm := hd.el (by omega) m
                  obtain ⟨d, hdm⟩ : ∃ d, el L m = d := ⟨_, rfl⟩
                  rw [hdm] at hc bm
                  have hdx := val_drop_pred 65536 L m (by omega)
                  rw [← el_eq, hdm, ← hx.out] at hdx
                  replace hdx := Lib.hid hdx
                  clear hdm hcL hpL
                  go_wp2
                  go_roundw
                  case rel => exact ⟨m, x * 65536 + d, by simp, by omega, Or.inl (by omega), rfl, by omega, by omega, Lib.hid (by rw [hdx.out]; omega), by first | rfl | trivial⟩
                  case measure => simp [intOf] <;> omega
              · have ej : L.drop j = L.drop (2 * (N - 1)) := by
                  rcases hs with h | h
                  · rw [show j = 2 * (N - 1) by omega]
                  · rw [h, List.drop_length, List.drop_eq_nil_of_le (by omega)]
                have hR2 := hR.out
                rw [← ej, ← hx.out] at hR2
                replace hR2 := Lib.hid hR2
                clear hR ej hx
                cases up <;> cases r
                all_goals
                  go_wp2
                  go_ret2
                  have e := hR2.out
                  simp at e
                  first | exact ⟨⟨x, decide (x ≤ 4503599627370496), rfl, (by rw [e]; exact (okF_nonneg (by omega)).symm), (fun _ => e.symm), (by omega), (by omega)⟩, hnx⟩ | exact ⟨⟨x + 1, decide (x + 1 ≤ 4503599627370496), rfl, (by rw [e]; exact (okF_nonneg (by omega)).symm), (fun _ => e.symm), (by omega), (by omega)⟩, hnx⟩
        · have hks : k = 2 * (N - 1) ∨ (k = L.length ∧ L.length ≤ 2 * (N - 1)) := by omega
          obtain ⟨et, ed⟩ := take_min L (2 * (N - 1)) k hks
          have hR := pow_digits v N L up hd hv.out
          rw [← et] at hR
          obtain ⟨r, hr⟩ : ∃ r, decide (0 < val 65536 (L.take k)) = r := ⟨_, rfl⟩
          rw [hr] at hR ⊢
          replace hR := Lib.hid hR
          clear hr et ed hks
          go_wp2
          go_loopw [12, 13] (fun ov i w3 => ∃ (j : Nat) (x : Int), i = .int .i64 ((j : Int) - 1) ∧ j ≤ L.length ∧ (2 * (N - 1) ≤ j ∨ j = L.length) ∧ ov = .int .i64 x ∧ 0 ≤ x ∧ x ≤ 4503599627436031 ∧ Hid (x = val 65536 (L.drop j)) ∧ w3 = wr)
            (fun _ i _ => ((intOf i) + 1).toNat)
          case atStart => exact ⟨L.length, 0, rfl, Nat.le_refl _, Or.inr rfl, rfl, Int.le_refl _, by omega, Lib.hid (by rw [List.drop_length]; rfl), rfl⟩
          case round =>
            obtain ⟨j, x, rfl, hj, hs, rfl, x0, x1, hx, rfl⟩ := hrel
            by_cases h3 : 2 * ((N : Int) - 1) ≤ (j : Int) - 1
            · obtain ⟨m, rfl⟩ : ∃ m, j = m + 1 := ⟨j - 1, by omega⟩
              have ei : ((m + 1 : Nat) : Int) - 1 = (m : Int) := by omega
              rw [ei] at h3 ⊢
              by_cases h4 : 68719476736 < x
              · have hbig := drop_big L (2 * (N - 1)) (m + 1) hd (by omega) hj (by rw [← hx.out]; exact h4)
                have hof : okF (rR up v N) = false := by
                  rw [hR.out]
                  refine decide_eq_false ?_
                  split <;> omega
                replace hof := Lib.hid hof
                clear hbig
                go_wp2
                go_ret2
                exact ⟨⟨0, false, rfl, hof.out.symm, (fun h => absurd h (by decide)), by omega, by omega⟩, hnx⟩
              · obtain ⟨bL, oL, rfl, hcL⟩ := hpL (by omega)
                have hc := hcL m (by omega)
                have bm := hd.el (by omega) m
                obtain ⟨d, hdm⟩ : ∃ d, el L m = d := ⟨_, rfl⟩
                rw [hdm] at hc bm
                have hdx := val_drop_pred 65536 L m (by omega)
                rw [← el_eq, hdm, ← hx.out] at hdx
                replace hdx := Lib.hid hdx
                clear hdm hcL hpL
                go_wp2
                go_roundw
                case rel => exact ⟨m, x * 65536 + d, by simp, by omega, Or.inl (by omega), rfl, by omega, by omega, Lib.hid (by rw [hdx.out]; omega), by first | rfl | trivial⟩
                case measure => simp [intOf] <;> omega
            · have ej : L.drop j = L.drop (2 * (N - 1)) := by
                rcases hs with h | h
                · rw [show j = 2 * (N - 1) by omega]
                · rw [h, List.drop_length, List.drop_eq_nil_of_le (by omega)]
              have hR2 := hR.out
              rw [← ej, ← hx.out] at hR2
              replace hR2 := Lib.hid hR2
              clear hR ej hx
              cases up <;> cases r
              all_goals
                go_wp2
                go_ret2
                have e := hR2.out
                simp at e
                first | exact ⟨⟨x, decide (x ≤ 4503599627370496), rfl, (by rw [e]; exact (okF_nonneg (by omega)).symm), (fun _ => e.symm), (by omega), (by omega)⟩, hnx⟩ | exact ⟨⟨x + 1, decide (x + 1 ≤ 4503599627370496), rfl, (by rw [e]; exact (okF_nonneg (by omega)).symm), (fun _ => e.symm), (by omega), (by omega)⟩, hnx⟩
end Go.Proofs.YtabnpidmhmebfaaGreatDoor
