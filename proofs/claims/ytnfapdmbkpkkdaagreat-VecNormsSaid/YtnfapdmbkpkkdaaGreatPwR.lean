/-
  The reference's Pow and Sqr, beside its product.
-/
import Derived.Test.YtnfapdmbkpkkdaaGreatPwM
import Derived.Test.YtnfapdmbkpkkdaaGreatSl
import Derived.Lib.Hide
import Derived.IntWalk
import Derived.Deep.QuietTactic
import Derived.BigQuiet
namespace Go.Proofs.YtnfapdmbkpkkdaaGreat
open Go.RowKit

def powR (b_ : Bool) (v n : Int) : Int × Int := lim (rq b_ (v ^ n.toNat) (4294967296 ^ (n.toNat - 1)))
theorem neg_pow_even (a : Int) (k : Nat) : (-a) ^ (2 * k) = a ^ (2 * k) := by
  induction k with
  | zero => simp
  | succ k ih => rw [show 2 * (k + 1) = 2 * k + 1 + 1 by omega, Int.pow_succ, Int.pow_succ, Int.pow_succ, Int.pow_succ, ih, Int.mul_assoc, Int.mul_assoc, Int.neg_mul_neg]
theorem neg_pow_odd (a : Int) (k : Nat) : (-a) ^ (2 * k + 1) = -(a ^ (2 * k + 1)) := by
  rw [Int.pow_succ, Int.pow_succ, neg_pow_even, Int.mul_neg]
theorem magR_bd {a b : Int} (h0 : -4503599627370496 ≤ a) (h1 : a ≤ b) (h2 : b ≤ 4503599627370496) : 0 ≤ (magR a b).1 ∧ (magR a b).1 ≤ (magR a b).2 ∧ (magR a b).2 ≤ 4503599627370496 := by
  unfold magR; split
  · simp; omega
  · split <;> simp <;> omega
def sPowR (a b n : Int) : Int × Int × Int :=
  if ckS a b = 0 then (if n < 0 ∨ 16 < n then (0, 0, 2) else if n = 0 then (4294967296, 4294967296, 0) else if n % 2 = 0 then btw (powR false (magR a b).1 n) (powR true (magR a b).2 n) else btw (powR false a n) (powR true b n)) else (0, 0, 20)

set_option maxRecDepth 100000 in
set_option maxHeartbeats 1600000 in
theorem rParts_any (n : Int) (w : World) (n0 : 0 ≤ n) (n1 : n ≤ 4503599627370496) :
    Calls Tryz.prog 117 #[.int .i64 n] w fun e w' => ∃ v l, e = .returned v ∧ Dig 65536 l ∧ val 65536 l = n ∧ l.length ≤ 4 ∧ Sl .i64 w' v l ∧ Below w.heap.size w w' := by
  obtain ⟨i0, hi, hz0, hz1, hz2⟩ := info_parts Tryz.infoInt
  go_enter Tryz.func117, Tryz.ntmps117
  go_wp2
  go_loopw [0, 3] (fun n' v wr => ∃ (m : Int) (l : List Int) (k : Nat), n' = .int .i64 m ∧ 0 ≤ m ∧ m ≤ n ∧ m < 65536 ^ k ∧ l.length + k = 4 ∧ Dig 65536 l ∧ Hid (val 65536 l + 65536 ^ l.length * m = n) ∧ wr.ownsRow w.heap.size 3 1 v l.length (l.map (Value.int .i64)) ∧ Below w.heap.size w wr)
    (fun n' _ _ => (intOf n').toNat)
  case atStart => exact ⟨n, [], 4, rfl, n0, Int.le_refl _, by omega, rfl, Dig.nil _, Lib.hid (by simp [val]), World.ownsRow_nil _ _ _ _, Below.refl _ _⟩
  case round =>
    obtain ⟨m, l, k, rfl, m0, m1, mk, lk, hd, hv, hown, hnx⟩ := hrel
    go_wp2_with (at_builtin; refine wpList_append_own _ rfl _ _ 120 rfl (w.heap.size) 3 i0 (.int .i64 0) 1 8 Tryz.underlying120 hi hz0 hz1 hz2 rfl (by decide) _ _ _ rfl (hown.alloc _) ⟨wr.heap.size, 0, none⟩ 1 1 [.int .i64 (m % 65536)] rfl rfl (one_at _ _ _) (one_cell _ _) (by unfold maxLen; omega) (by omega) (by have := hnx.size; simp; omega) ?_)
    · intro v' w1 hown' hgrow _
      have hm : 0 < m := by assumption
      obtain ⟨k', rfl⟩ : ∃ k', k = k' + 1 := by
        cases k with
        | zero => simp at mk; omega
        | succ k => exact ⟨k, rfl⟩
      have hb := (hnx.alloc hnx.size (.cells #[.int .i64 (m % 65536)] 3)).grown hgrow (by have := hnx.size; simp; omega) (fun k hk => (hown.lt k hk).1)
      clear hown hgrow hnx
      go_wp2
      go_roundw
      case rel =>
        refine ⟨m / 65536, l ++ [m % 65536], k', rfl, by omega, by omega, ?_, by simp; omega, hd.snoc (by omega) (by omega), ?_, by rw [List.length_append, List.map_append]; exact hown', hb⟩
        · rw [Int.pow_succ] at mk; omega
        · have e := hv.out
          refine Lib.hid ?_
          rw [val_append, List.length_append, List.length_singleton, Int.pow_succ, val_cons, val_nil, ← e]
          have e2 := Int.mul_ediv_add_emod m 65536
          generalize 65536 ^ l.length = P
          generalize m / 65536 = q at *
          generalize m % 65536 = r at *
          rw [← e2]; grind
      case measure => simp [intOf]; omega
    · have hm : m ≤ 0 := by assumption
      have : m = 0 := by omega
      subst this
      go_ret
      exact ⟨_, l, rfl, hd, by have e := hv.out; rw [Int.mul_zero, Int.add_zero] at e; exact e, by omega, Sl.own hown, hnx⟩

/-- One step of the product: the digit and what is carried. -/
theorem prod_step {B O C p q c S P : Int} (_hB : 0 < B) (hv : O + C * P = S) (n : Int) (hn : n = q + p + C) (c0 : c = n / B) :
    O + P * (n % B - q) + c * (P * B) = S + P * p := by
  have e := Int.mul_ediv_add_emod n B
  subst c0
  rw [← hv]
  generalize n / B = x at *
  generalize n % B = r at *
  have : r = q + p + C - B * x := by omega
  subst this; grind

set_option maxRecDepth 100000 in
set_option maxHeartbeats 4000000 in
theorem rProd_any (va vb : Value) (a b : List Int) (w : World) (ha : Sl .i64 w va a) (hb : Sl .i64 w vb b) (da : Dig 65536 a) (db : Dig 65536 b) (la : a.length ≤ 100) (lb : b.length ≤ 100) :
    Calls Tryz.prog 116 #[va, vb] w fun e w' => ∃ v l, e = .returned v ∧ Dig 65536 l ∧ val 65536 l = val 65536 a * val 65536 b ∧ l.length = a.length + b.length ∧ Sl .i64 w' v l ∧ Below w.heap.size w w' := by
  obtain ⟨i0, hi, hz0, hz1, hz2⟩ := info_parts Tryz.infoInt
  obtain ⟨pa, ca, rfl, hpa⟩ := ha
  obtain ⟨pb, cb, rfl, hpb⟩ := hb
  go_enter Tryz.func116, Tryz.ntmps116
  go_wp2_with (refine wpList_make_full _ rfl (.tmp 14) (.tmp 14) 120 rfl w.heap.size 3 i0 (.int .i64 0) 1 Tryz.underlying120 hi hz0 hz1 .i64 .i64 ((a.length : Int) + (b.length : Int)) ((a.length : Int) + (b.length : Int)) (a.length + b.length) rfl rfl (by omega) (by omega) (by rw [hz2]; omega) (by unfold maxLen; omega) (Nat.le_refl _) ?_)
  intro w1 hown hgrow
  rw [toList_madeCells_one, show List.replicate (a.length + b.length) (Value.int IntKind.i64 0) = (List.replicate (a.length + b.length) (0 : Int)).map (.int .i64) by simp] at hown
  have hnx : Below w.heap.size w w1 := (Below.refl _ _).grown hgrow (Nat.le_refl _) (fun k hk => by cases hk)
  clear hgrow
  go_wp2
  go_loopw [6] (fun i wr => ∃ (k : Nat) (O : List Int), i = .int .i64 k ∧ k ≤ a.length ∧ O.length = a.length + b.length ∧ Dig 65536 O ∧ Hid (val 65536 O = val 65536 (a.take k) * val 65536 b) ∧ (∀ j, k + b.length ≤ j → el O j = 0) ∧ wr.ownsRow w.heap.size 3 1 (.slice (some ⟨w.heap.size, 0, none⟩) (a.length + b.length) (a.length + b.length)) (a.length + b.length) (O.map (Value.int .i64)) ∧ Below w.heap.size w wr)
    (fun i _ => a.length - (intOf i).toNat)
  case atStart =>
    refine ⟨0, List.replicate (a.length + b.length) 0, rfl, Nat.zero_le _, by simp, Dig.zeros (by omega) _, Lib.hid (by rw [val_zeros]; simp [val]), fun j _ => ?_, hown, hnx⟩
    rw [el_eq, List.getD_eq_getElem?_getD, List.getElem?_replicate]; split <;> rfl
  case round =>
    clear hown hnx
    obtain ⟨k, O, rfl, hk, hO, hd, hv, hz, hown, hnx⟩ := hrel
    go_wp2
    · have hk' : k < a.length := by omega
      go_loopw [7, 8] (fun c jj wr => ∃ (j : Nat) (x : Int) (O : List Int), jj = .int .i64 j ∧ j ≤ b.length ∧ c = .int .i64 x ∧ 0 ≤ x ∧ x < 65536 ∧ O.length = a.length + b.length ∧ Dig 65536 O ∧ Hid (val 65536 O + x * 65536 ^ (k + j) = val 65536 (a.take k) * val 65536 b + 65536 ^ k * (el a k * val 65536 (b.take j))) ∧ (∀ j, k + b.length ≤ j → el O j = 0) ∧ wr.ownsRow w.heap.size 3 1 (.slice (some ⟨w.heap.size, 0, none⟩) (a.length + b.length) (a.length + b.length)) (a.length + b.length) (O.map (Value.int .i64)) ∧ Below w.heap.size w wr)
        (fun _ jj _ => b.length - (intOf jj).toNat)
      case atStart => exact ⟨0, 0, O, rfl, Nat.zero_le _, rfl, Int.le_refl _, by omega, hO, hd, Lib.hid (by have e := hv.out; simp [val, e]), hz, hown, hnx⟩
      case round =>
        clear hown hnx hd hv hz hO
        obtain ⟨j, x, O, rfl, hj, rfl, x0, x1, hO, hd, hv, hz, hown, hnx⟩ := hrel
        have hcx : wr.cell? ⟨w.heap.size, k + b.length, none⟩ = some (.int .i64 (el O (k + b.length))) := by rw [hown.cellAt _ (by omega), el_map _ (by omega)]
        have hfx := hown.frozenAt (k + b.length)
        go_wp2
        · have hj' : j < b.length := by omega
          obtain ⟨ba, oa, rfl, hca⟩ := hpa (by omega)
          obtain ⟨bb, ob, rfl, hcb⟩ := hpb (by omega)
          have hcp := bkeep hnx (hca k hk')
          have hcq := bkeep hnx (hcb j hj')
          have hco : wr.cell? ⟨w.heap.size, k + j, none⟩ = some (.int .i64 (el O (k + j))) := by rw [hown.cellAt _ (by omega), el_map _ (by omega)]
          have hfo := hown.frozenAt (k + j)
          have bp := da.el (by omega) k
          have bq := db.el (by omega) j
          have bo := hd.el (by omega) (k + j)
          obtain ⟨p, hp⟩ : ∃ p, el a k = p := ⟨_, rfl⟩
          obtain ⟨q, hq⟩ : ∃ q, el b j = q := ⟨_, rfl⟩
          obtain ⟨o, ho⟩ : ∃ o, el O (k + j) = o := ⟨_, rfl⟩
          obtain ⟨P, hP⟩ : ∃ P, p * q = P := ⟨_, rfl⟩
          rw [hp] at bp hcp
          rw [hq] at bq hcq
          rw [ho] at bo hco
          have bP : 0 ≤ P ∧ P ≤ 4294836225 := by
            subst hP
            exact ⟨Int.mul_nonneg bp.1 bq.1, by have := Int.mul_le_mul (show p ≤ 65535 by omega) (show q ≤ 65535 by omega) bq.1 (by omega : (0 : Int) ≤ 65535); omega⟩
          have e1 : IntKind.i64.wrap (p * q) = P := by rw [hP]; exact IntWalk.i64_in _ (by omega)
          replace hp := Lib.hid hp
          replace hq := Lib.hid hq
          replace ho := Lib.hid ho
          replace hP := Lib.hid hP
          clear hca hcb hpa hpb
          go_quiet (fail)
          go_wp2
          go_roundw
          case rel =>
            have hown2 : (wr.drewN nq).ownsRow w.heap.size 3 1 (.slice (some ⟨w.heap.size, 0, none⟩) (a.length + b.length) (a.length + b.length)) (a.length + b.length) (O.map (Value.int .i64)) := ownsRow_drewN hown nq
            refine ⟨j + 1, (o + P + x) / 65536, O.set (k + j) ((o + P + x) % 65536), by simp, by omega, rfl, by omega, by omega, by simp [hO], hd.set _ (by omega) (by omega), Lib.hid ?_, fun i hi => ?_, ?_, by (repeat (first | with_reducible exact Below.refl _ _ | with_reducible assumption | refine Below.alloc ?_ (by (try simp); try omega) _ | refine Below.setCell ?_ (by (try simp); try omega) _ | refine below_drewN ?_ _ | refine Below.drew ?_ | (with_reducible refine Below.trans ?_ (Below.mono (by assumption) (by (try simp); try omega)))))⟩
            · rw [val_set _ _ _ _ (by omega), val_take_succ _ _ _ hj', ← Nat.add_assoc, Int.pow_succ 65536 (k + j)]
              have e := prod_step (B := 65536) (p := P) (q := o) (by omega) hv.out (o + P + x) rfl rfl
              rw [← el_eq, ho.out, ← el_eq, hq.out, e, ← hP.out, ← hp.out, Int.pow_add]; grind
            · rw [el_set_ne _ _ _ _ (by omega)]; exact hz i hi
            · rw [List.map_set]; exact (hown2.stored (k + j) _).1
          case measure => simp [intOf]; omega
        · have hjb : j = b.length := by omega
          subst hjb
          go_roundw
          case rel =>
            refine ⟨k + 1, O.set (k + b.length) x, by simp, by omega, by simp [hO], hd.set _ x0 x1, Lib.hid ?_, fun i hi => ?_, ?_, by (repeat (first | with_reducible exact Below.refl _ _ | with_reducible assumption | refine Below.alloc ?_ (by (try simp); try omega) _ | refine Below.setCell ?_ (by (try simp); try omega) _ | refine below_drewN ?_ _ | refine Below.drew ?_ | (with_reducible refine Below.trans ?_ (Below.mono (by assumption) (by (try simp); try omega)))))⟩
            · rw [val_set _ _ _ _ (by omega), val_take_succ _ _ _ hk', ← el_eq, hz _ (by omega), ← el_eq]
              have e := hv.out
              rw [List.take_length] at e
              rw [Int.sub_zero, Int.mul_comm _ x, e]; grind
            · rw [el_set_ne _ _ _ _ (by omega)]; exact hz i (by omega)
            · rw [List.map_set]; exact (hown.stored (k + b.length) _).1
          case measure => simp [intOf]; omega
    · have hka : k = a.length := by omega
      subst hka
      go_ret
      exact ⟨_, O, rfl, hd, by have e := hv.out; rwa [List.take_length] at e, hO, Sl.own (by rw [hO]; exact hown), hnx⟩

/-- The power of a number, rounded. -/
def rR (up : Bool) (v n : Int) : Int := rq up (v ^ n.toNat) (4294967296 ^ (n.toNat - 1))
theorem den_pos (n : Int) : (0 : Int) < 4294967296 ^ (n.toNat - 1) := Int.pow_pos (by omega)
theorem den_pos' (N : Nat) : (0 : Int) < 4294967296 ^ (N - 1) := Int.pow_pos (by omega)

theorem den_eq (N : Nat) : (4294967296 : Int) ^ (N - 1) = 65536 ^ (2 * (N - 1)) := by
  rw [Int.pow_mul]; rfl
/-- What the digits of a power tell. -/
theorem pow_digits (v : Int) (N : Nat) (L : List Int) (up : Bool) (hd : Dig 65536 L) (hv : val 65536 L = v ^ N) :
    rR up v N = if up && decide (0 < val 65536 (L.take (2 * (N - 1)))) then val 65536 (L.drop (2 * (N - 1))) + 1 else val 65536 (L.drop (2 * (N - 1))) := by
  obtain ⟨e1, e2⟩ := val_drop (B := 65536) (by omega) hd (2 * (N - 1))
  rw [e1, e2, hv, ← den_eq]
  unfold rR
  rw [show ((N : Int)).toNat = N by omega, ← rdiv_rq _ _ _ (den_pos' N)]
  unfold rdiv
  cases up <;> simp
theorem take_min (L : List Int) (s k : Nat) (h : k = s ∨ (k = L.length ∧ L.length ≤ s)) : L.take k = L.take s ∧ L.drop k = L.drop s := by
  rcases h with rfl | ⟨rfl, h⟩
  · exact ⟨rfl, rfl⟩
  · rw [List.take_of_length_le (Nat.le_refl _), List.take_of_length_le h, List.drop_eq_nil_of_le (Nat.le_refl _), List.drop_eq_nil_of_le h]; exact ⟨rfl, rfl⟩
theorem drop_big (L : List Int) (s j : Nat) (hd : Dig 65536 L) (h : s < j) (hj : j ≤ L.length) (hx : 68719476736 < val 65536 (L.drop j)) : 4503599627370496 < val 65536 (L.drop s) := by
  induction j with
  | zero => omega
  | succ j ih =>
    have e := val_drop_pred 65536 L j (by omega)
    have b := hd.getD (by omega : (0 : Int) < 65536) j
    by_cases hs : s = j
    · subst hs; omega
    · exact ih (by omega) (by omega) (by omega)

/-- What a rounded power returns: the number, and whether it fits. -/
def RP (R : Int) (e : Ending) : Prop := ∃ out f, e = .returned (.tuple #[.int .i64 out, .bool f]) ∧ f = okF R ∧ (f = true → out = R) ∧ -9007199254740992 ≤ out ∧ out ≤ 9007199254740992

set_option maxRecDepth 100000 in
set_option maxHeartbeats 4000000 in
theorem rPower_any (v : Int) (N : Nat) (up : Bool) (w : World) (v0 : 0 ≤ v) (v1 : v ≤ 4503599627370496) (n1 : 1 ≤ N) (n16 : N ≤ 16) :
    Calls Tryz.prog 109 #[.int .i64 v, .int .i64 (N : Int), .bool up] w fun e w' => RP (rR up v N) e ∧ Below w.heap.size w w' := by
  go_enter Tryz.func109, Tryz.ntmps109
  go_wp2
  go_loopw [8, 9] (fun lv i wr => ∃ (k : Nat) (L : List Int), i = .int .i64 k ∧ k ≤ N ∧ Dig 65536 L ∧ Hid (val 65536 L = v ^ k) ∧ L.length ≤ 1 + 4 * k ∧ Sl .i64 wr lv L ∧ Below w.heap.size w wr)
    (fun _ i _ => N - (intOf i).toNat)
  case atStart =>
    refine ⟨0, [1], rfl, Nat.zero_le _, Dig.one (by omega) (by omega), Lib.hid (by simp [val]), by simp, ⟨_, _, rfl, fun _ => ⟨_, _, rfl, fun i hi => ?_⟩⟩, by (repeat (first | with_reducible exact Below.refl _ _ | with_reducible assumption | refine Below.alloc ?_ (by (try simp); try omega) _ | refine Below.setCell ?_ (by (try simp); try omega) _ | refine below_drewN ?_ _ | refine Below.drew ?_ | (with_reducible refine Below.trans ?_ (Below.mono (by assumption) (by (try simp); try omega)))))⟩
    have : i = 0 := by simpa using hi
    subst this
    simp [el]
  case round =>
    obtain ⟨k, L, rfl, hk, hd, hv, hl, hs, hnx⟩ := hrel
    go_wp2_with (first
      | (go_at_call 117; refine (rParts_any v _ v0 v1).mono ?_; rintro e w1 ⟨vp, lp, rfl, dp, ep, lp4, sp, hb1⟩)
      | (go_at_call 116; refine (rProd_any _ _ L lp _ (hs.keep hb1) sp hd dp (by omega) (by omega)).mono ?_; rintro e w2 ⟨v', l', rfl, d', e', len', s', hb2⟩))
    · go_roundw
      case rel => exact ⟨k + 1, l', by simp, by omega, d', Lib.hid (by rw [e', hv.out, ep, Int.pow_succ]), by omega, s', hnx.trans ((hb1.trans (hb2.mono hb1.size)).mono hnx.size)⟩
      case measure => simp [intOf]; omega
    · obtain rfl : N = k := by omega
      obtain ⟨pL, cL, rfl, hpL⟩ := hs
      go_loopw [10, 11] (fun rv i w2 => ∃ (j : Nat), i = .int .i64 j ∧ j ≤ 2 * (N - 1) ∧ j ≤ L.length ∧ rv = .bool (decide (0 < val 65536 (L.take j))) ∧ w2 = wr)
        (fun _ i _ => L.length - (intOf i).toNat)
      case atStart => exact ⟨0, rfl, Nat.zero_le _, Nat.zero_le _, by simp [val], rfl⟩
      case round =>
        obtain ⟨k, rfl, hk1, hk2, rfl, rfl⟩ := hrel
        by_cases h1 : (k : Int) < 2 * ((N : Int) - 1)
        · by_cases h2 : k < L.length
          · obtain ⟨bL, oL, rfl, hcL⟩ := hpL (by omega)
            have hc := hcL k h2
            have bk := hd.el (by omega) k
            obtain ⟨d, hdk⟩ : ∃ d, el L k = d := ⟨_, rfl⟩
            rw [hdk] at hc bk
            have hn := val_nonneg (B := 65536) (by omega) (hd.take k)
            have hp := pow_pos' (B := 65536) (by omega) k
            have hnext : decide (0 < val 65536 (L.take (k + 1))) = (decide (0 < val 65536 (L.take k)) || decide (0 < d)) := by
              rw [val_take_succ _ _ _ h2, ← el_eq, hdk]
              by_cases c : 0 < d
              · have := Int.mul_pos hp c
                rw [decide_eq_true c, Bool.or_true, decide_eq_true (by omega)]
              · rw [show d = 0 by omega, Int.mul_zero, Int.add_zero, decide_eq_false (show ¬ (0 : Int) < 0 by omega), Bool.or_false]
            replace hnext := Lib.hid hnext
            clear hdk hn hp hcL hpL
            obtain ⟨r, hr⟩ : ∃ r, decide (0 < val 65536 (L.take k)) = r := ⟨_, rfl⟩
            rw [hr] at hnext ⊢
            clear hr
            cases r <;> go_wp2
            all_goals
              go_roundw
              case rel => exact ⟨k + 1, by simp, by omega, by omega, by rw [hnext.out]; simp, by first | rfl | trivial⟩
              case measure => simp [intOf]; omega
          · have hks : k = 2 * (N - 1) ∨ (k = L.length ∧ L.length ≤ 2 * (N - 1)) := by omega
            obtain ⟨et, ed⟩ := take_min L (2 * (N - 1)) k hks
            have hR := pow_digits v N L up hd hv.out
            rw [← et] at hR
            obtain ⟨r, hr⟩ : ∃ r, decide (0 < val 65536 (L.take k)) = r := ⟨_, rfl⟩
            rw [hr] at hR ⊢
            replace hR := Lib.hid hR
            clear hr et ed hks
            go_wp2
            go_loopw [12, 13] (fun ov i w3 => ∃ (j : Nat) (x : Int), i = .int .i64 ((j : Int) - 1) ∧ j ≤ L.length ∧ (2 * (N - 1) ≤ j ∨ j = L.length) ∧ ov = .int .i64 x ∧ 0 ≤ x ∧ x ≤ 4503599627436031 ∧ Hid (x = val 65536 (L.drop j)) ∧ w3 = wr)
              (fun _ i _ => ((intOf i) + 1).toNat)
            case atStart => exact ⟨L.length, 0, rfl, Nat.le_refl _, Or.inr rfl, rfl, Int.le_refl _, by omega, Lib.hid (by rw [List.drop_length]; rfl), rfl⟩
            case round =>
              obtain ⟨j, x, rfl, hj, hs, rfl, x0, x1, hx, rfl⟩ := hrel
              by_cases h3 : 2 * ((N : Int) - 1) ≤ (j : Int) - 1
              · obtain ⟨m, rfl⟩ : ∃ m, j = m + 1 := ⟨j - 1, by omega⟩
                have ei : ((m + 1 : Nat) : Int) - 1 = (m : Int) := by omega
                rw [ei] at h3 ⊢
                by_cases h4 : 68719476736 < x
                · have hbig := drop_big L (2 * (N - 1)) (m + 1) hd (by omega) hj (by rw [← hx.out]; exact h4)
                  have hof : okF (rR up v N) = false := by
                    rw [hR.out]
                    refine decide_eq_false ?_
                    split <;> omega
                  replace hof := Lib.hid hof
                  clear hbig
                  go_wp2
                  go_ret2
                  exact ⟨⟨0, false, rfl, hof.out.symm, (fun h => absurd h (by decide)), by omega, by omega⟩, hnx⟩
                · obtain ⟨bL, oL, rfl, hcL⟩ := hpL (by omega)
                  have hc := hcL m (by omega)
                  have bm := hd.el (by omega) m
                  obtain ⟨d, hdm⟩ : ∃ d, el L m = d := ⟨_, rfl⟩
                  rw [hdm] at hc bm
                  have hdx := val_drop_pred 65536 L m (by omega)
                  rw [← el_eq, hdm, ← hx.out] at hdx
                  replace hdx := Lib.hid hdx
                  clear hdm hcL hpL
                  go_wp2
                  go_roundw
                  case rel => exact ⟨m, x * 65536 + d, by simp, by omega, Or.inl (by omega), rfl, by omega, by omega, Lib.hid (by rw [hdx.out]; omega), by first | rfl | trivial⟩
                  case measure => simp [intOf] <;> omega
              · have ej : L.drop j = L.drop (2 * (N - 1)) := by
                  rcases hs with h | h
                  · rw [show j = 2 * (N - 1) by omega]
                  · rw [h, List.drop_length, List.drop_eq_nil_of_le (by omega)]
                have hR2 := hR.out
                rw [← ej, ← hx.out] at hR2
                replace hR2 := Lib.hid hR2
                clear hR ej hx
                cases up <;> cases r
                all_goals
                  go_wp2
                  go_ret2
                  have e := hR2.out
                  simp at e
                  first | exact ⟨⟨x, decide (x ≤ 4503599627370496), rfl, (by rw [e]; exact (okF_nonneg (by omega)).symm), (fun _ => e.symm), (by omega), (by omega)⟩, hnx⟩ | exact ⟨⟨x + 1, decide (x + 1 ≤ 4503599627370496), rfl, (by rw [e]; exact (okF_nonneg (by omega)).symm), (fun _ => e.symm), (by omega), (by omega)⟩, hnx⟩
        · have hks : k = 2 * (N - 1) ∨ (k = L.length ∧ L.length ≤ 2 * (N - 1)) := by omega
          obtain ⟨et, ed⟩ := take_min L (2 * (N - 1)) k hks
          have hR := pow_digits v N L up hd hv.out
          rw [← et] at hR
          obtain ⟨r, hr⟩ : ∃ r, decide (0 < val 65536 (L.take k)) = r := ⟨_, rfl⟩
          rw [hr] at hR ⊢
          replace hR := Lib.hid hR
          clear hr et ed hks
          go_wp2
          go_loopw [12, 13] (fun ov i w3 => ∃ (j : Nat) (x : Int), i = .int .i64 ((j : Int) - 1) ∧ j ≤ L.length ∧ (2 * (N - 1) ≤ j ∨ j = L.length) ∧ ov = .int .i64 x ∧ 0 ≤ x ∧ x ≤ 4503599627436031 ∧ Hid (x = val 65536 (L.drop j)) ∧ w3 = wr)
            (fun _ i _ => ((intOf i) + 1).toNat)
          case atStart => exact ⟨L.length, 0, rfl, Nat.le_refl _, Or.inr rfl, rfl, Int.le_refl _, by omega, Lib.hid (by rw [List.drop_length]; rfl), rfl⟩
          case round =>
            obtain ⟨j, x, rfl, hj, hs, rfl, x0, x1, hx, rfl⟩ := hrel
            by_cases h3 : 2 * ((N : Int) - 1) ≤ (j : Int) - 1
            · obtain ⟨m, rfl⟩ : ∃ m, j = m + 1 := ⟨j - 1, by omega⟩
              have ei : ((m + 1 : Nat) : Int) - 1 = (m : Int) := by omega
              rw [ei] at h3 ⊢
              by_cases h4 : 68719476736 < x
              · have hbig := drop_big L (2 * (N - 1)) (m + 1) hd (by omega) hj (by rw [← hx.out]; exact h4)
                have hof : okF (rR up v N) = false := by
                  rw [hR.out]
                  refine decide_eq_false ?_
                  split <;> omega
                replace hof := Lib.hid hof
                clear hbig
                go_wp2
                go_ret2
                exact ⟨⟨0, false, rfl, hof.out.symm, (fun h => absurd h (by decide)), by omega, by omega⟩, hnx⟩
              · obtain ⟨bL, oL, rfl, hcL⟩ := hpL (by omega)
                have hc := hcL m (by omega)
                have bm := hd.el (by omega) m
                obtain ⟨d, hdm⟩ : ∃ d, el L m = d := ⟨_, rfl⟩
                rw [hdm] at hc bm
                have hdx := val_drop_pred 65536 L m (by omega)
                rw [← el_eq, hdm, ← hx.out] at hdx
                replace hdx := Lib.hid hdx
                clear hdm hcL hpL
                go_wp2
                go_roundw
                case rel => exact ⟨m, x * 65536 + d, by simp, by omega, Or.inl (by omega), rfl, by omega, by omega, Lib.hid (by rw [hdx.out]; omega), by first | rfl | trivial⟩
                case measure => simp [intOf] <;> omega
            · have ej : L.drop j = L.drop (2 * (N - 1)) := by
                rcases hs with h | h
                · rw [show j = 2 * (N - 1) by omega]
                · rw [h, List.drop_length, List.drop_eq_nil_of_le (by omega)]
              have hR2 := hR.out
              rw [← ej, ← hx.out] at hR2
              replace hR2 := Lib.hid hR2
              clear hR ej hx
              cases up <;> cases r
              all_goals
                go_wp2
                go_ret2
                have e := hR2.out
                simp at e
                first | exact ⟨⟨x, decide (x ≤ 4503599627370496), rfl, (by rw [e]; exact (okF_nonneg (by omega)).symm), (fun _ => e.symm), (by omega), (by omega)⟩, hnx⟩ | exact ⟨⟨x + 1, decide (x + 1 ≤ 4503599627370496), rfl, (by rw [e]; exact (okF_nonneg (by omega)).symm), (fun _ => e.symm), (by omega), (by omega)⟩, hnx⟩

theorem pow_le (k : Nat) {u v : Int} (u0 : 0 ≤ u) (uv : u ≤ v) : u ^ k ≤ v ^ k ∧ 0 ≤ u ^ k := by
  induction k with
  | zero => simp
  | succ k ih =>
    obtain ⟨i1, i2⟩ := ih
    rw [Int.pow_succ, Int.pow_succ]
    exact ⟨Int.mul_le_mul i1 uv u0 (by omega), Int.mul_nonneg i2 u0⟩
theorem pow_odd_le (m : Nat) {u v : Int} (uv : u ≤ v) : u ^ (2 * m + 1) ≤ v ^ (2 * m + 1) := by
  by_cases u0 : 0 ≤ u
  · exact (pow_le _ u0 uv).1
  · by_cases v0 : 0 ≤ v
    · have h1 := (pow_le (2 * m + 1) v0 (Int.le_refl v)).2
      have h2 := (pow_le (2 * m + 1) (u := -u) (by omega) (Int.le_refl (-u))).2
      rw [neg_pow_odd] at h2; omega
    · have h1 := (pow_le (2 * m + 1) (u := -v) (v := -u) (by omega) (by omega)).1
      rw [neg_pow_odd, neg_pow_odd] at h1; omega

theorem powR_lim (b_ : Bool) (v n : Int) : powR b_ v n = lim (rR b_ v n) := rfl
theorem btw_lim (x y : Int) : btw (lim x) (lim y) = if okF x && okF y then (x, y, 0) else (0, 0, 6) := by
  rw [lim_okF, lim_okF]
  cases okF x <;> cases okF y <;> rfl
theorem rR_up (v n : Int) : rR false v n ≤ rR true v n := rq_le _ _ (den_pos n)
theorem rR_le (up : Bool) {u v n : Int} (h : u ^ n.toNat ≤ v ^ n.toNat) : rR up u n ≤ rR up v n := rq_mono _ _ (den_pos n) h
theorem rR_neg_even (up : Bool) (v n : Int) (_n0 : 0 ≤ n) (h : n % 2 = 0) : rR up (-v) n = rR up v n := by
  unfold rR
  obtain ⟨m, hm⟩ : ∃ m, n.toNat = 2 * m := ⟨n.toNat / 2, by omega⟩
  rw [hm, neg_pow_even]
theorem rR_neg_odd (up : Bool) (v n : Int) (n0 : 0 ≤ n) (h : n % 2 = 1) : rR up (-v) n = -(rR (!up) v n) := by
  unfold rR
  obtain ⟨m, hm⟩ : ∃ m, n.toNat = 2 * m + 1 := ⟨n.toNat / 2, by omega⟩
  rw [hm, neg_pow_odd, rq_neg]
theorem rR_zero (up : Bool) (n : Int) (n1 : 1 ≤ n) : rR up 0 n = 0 := by
  unfold rR
  rw [Int.zero_pow (by omega)]
  cases up <;> simp [rq]
theorem rR_nonneg (up : Bool) {v n : Int} (n1 : 1 ≤ n) (h : 0 ≤ v) : 0 ≤ rR up v n := by
  rw [← rR_zero up n n1]
  exact rR_le up (pow_le _ (Int.le_refl 0) h).1

theorem pow_eq (a b n l m lu mu : Int) (f1 f2 f3 f4 : Bool) (n1 : 1 ≤ n) (n16 : n ≤ 16) (k : ckS a b = 0)
    (h1 : f1 = okF (rR false a n)) (g1 : f1 = true → l = rR false a n) (h2 : f2 = okF (rR false b n)) (g2 : f2 = true → m = rR false b n)
    (h3 : f3 = okF (rR true a n)) (g3 : f3 = true → lu = rR true a n) (h4 : f4 = okF (rR true b n)) (g4 : f4 = true → mu = rR true b n) :
    sPowR a b n = if f1 && f2 && f3 && f4 then limS (if n % 2 = 0 ∧ a < 0 ∧ 0 < b then 0 else min l m) (max lu mu) else (0, 0, 6) := by
  have vk := valS k
  have ua := rR_up a n
  have ub := rR_up b n
  have lim' : ∀ x y : Int, x ≤ y → limS x y = if okF x && okF y then (x, y, 0) else (0, 0, 6) := by
    intro x y hxy
    unfold limS ckS okF
    by_cases h : x < -4503599627370496 ∨ y < x ∨ 4503599627370496 < y
    · rw [if_pos h, if_neg (by decide), if_neg]; simp; omega
    · rw [if_neg h, if_pos rfl, if_pos]; simp; omega
  unfold sPowR
  rw [if_pos k, if_neg (by omega), if_neg (by omega)]
  simp only [powR_lim, btw_lim]
  by_cases ev : n % 2 = 0
  · rw [if_pos ev]
    by_cases a0 : 0 ≤ a
    · rw [show magR a b = (a, b) by unfold magR; rw [if_pos a0]]
      have r1 := rR_le false (n := n) (pow_le n.toNat a0 vk.2.1).1
      have r2 := rR_le true (n := n) (pow_le n.toNat a0 vk.2.1).1
      rw [if_neg (show ¬ (n % 2 = 0 ∧ a < 0 ∧ 0 < b) by omega)]
      dsimp only
      generalize rR false a n = x1 at *
      generalize rR false b n = x2 at *
      generalize rR true a n = x3 at *
      generalize rR true b n = x4 at *
      by_cases c : okF x1 = true ∧ okF x4 = true
      · have o1 := okF_true c.1
        have o4 := okF_true c.2
        have o2 : okF x2 = true := decide_eq_true (by omega)
        have o3 : okF x3 = true := decide_eq_true (by omega)
        rw [c.1] at h1; rw [c.2] at h4; rw [o2] at h2; rw [o3] at h3
        rw [h1, h2, h3, h4]
        rw [g1 h1, g2 h2, g3 h3, g4 h4, Int.min_eq_left r1, Int.max_eq_right r2, lim' _ _ (by omega)]; rfl
      · rw [if_neg (by simpa using c), if_neg]
        rw [h1, h2, h3, h4]; simp at c ⊢; grind
    · by_cases b0 : b ≤ 0
      · rw [show magR a b = (-b, -a) by unfold magR; rw [if_neg a0, if_pos b0]]
        have r1 := rR_le false (n := n) (pow_le n.toNat (u := -b) (v := -a) (by omega) (by omega)).1
        have r2 := rR_le true (n := n) (pow_le n.toNat (u := -b) (v := -a) (by omega) (by omega)).1
        rw [if_neg (show ¬ (n % 2 = 0 ∧ a < 0 ∧ 0 < b) by omega)]
        dsimp only
        rw [rR_neg_even _ _ _ (by omega) ev, rR_neg_even _ _ _ (by omega) ev] at r1 r2 ⊢
        generalize rR false a n = x1 at *
        generalize rR false b n = x2 at *
        generalize rR true a n = x3 at *
        generalize rR true b n = x4 at *
        by_cases c : okF x2 = true ∧ okF x3 = true
        · have o2 := okF_true c.1
          have o3 := okF_true c.2
          have o1 : okF x1 = true := decide_eq_true (by omega)
          have o4 : okF x4 = true := decide_eq_true (by omega)
          rw [o1] at h1; rw [o4] at h4; rw [c.1] at h2; rw [c.2] at h3
          rw [h1, h2, h3, h4]
          rw [g1 h1, g2 h2, g3 h3, g4 h4, Int.min_eq_right r1, Int.max_eq_left r2, lim' _ _ (by omega)]; rfl
        · rw [if_neg (by simpa using c), if_neg]
          rw [h1, h2, h3, h4]; simp at c ⊢; grind
      · rw [show magR a b = (0, max (-a) b) by unfold magR; rw [if_neg a0, if_neg b0]]
        rw [if_pos (show n % 2 = 0 ∧ a < 0 ∧ 0 < b by omega)]
        dsimp only
        have na := rR_neg_even true a n (by omega) ev
        have nd := rR_neg_even false a n (by omega) ev
        have p1 := rR_nonneg false (v := -a) n1 (by omega)
        have p2 := rR_nonneg false (v := b) n1 (by omega)
        rw [nd] at p1
        have hm : rR true (max (-a) b) n = max (rR true a n) (rR true b n) := by
          rcases Int.le_total (-a) b with h | h
          · have := rR_le true (n := n) (pow_le n.toNat (u := -a) (v := b) (by omega) h).1
            rw [na] at this
            rw [Int.max_eq_right h, Int.max_eq_right this]
          · have := rR_le true (n := n) (pow_le n.toNat (u := b) (v := -a) (by omega) h).1
            rw [na] at this
            rw [Int.max_eq_left h, na, Int.max_eq_left this]
        rw [hm, rR_zero false n n1]
        generalize rR false a n = x1 at *
        generalize rR false b n = x2 at *
        generalize rR true a n = x3 at *
        generalize rR true b n = x4 at *
        by_cases c : okF x3 = true ∧ okF x4 = true
        · have o3 := okF_true c.1
          have o4 := okF_true c.2
          have o1 : okF x1 = true := decide_eq_true (by omega)
          have o2 : okF x2 = true := decide_eq_true (by omega)
          rw [o1] at h1; rw [o2] at h2; rw [c.1] at h3; rw [c.2] at h4
          rw [h1, h2, h3, h4]
          rw [g3 h3, g4 h4, lim' _ _ (by omega)]; rfl
        · have hx : ¬ okF (max x3 x4) = true := by
            intro hx
            have := okF_true hx
            exact c ⟨decide_eq_true (by omega), decide_eq_true (by omega)⟩
          rw [if_neg (by simp [hx]), if_neg]
          rw [h1, h2, h3, h4]; simp at c ⊢; grind
  · rw [if_neg ev]
    have om : a ^ n.toNat ≤ b ^ n.toNat := by
      obtain ⟨m, hm⟩ : ∃ m, n.toNat = 2 * m + 1 := ⟨n.toNat / 2, by omega⟩
      rw [hm]; exact pow_odd_le m vk.2.1
    have r1 := rR_le false (n := n) om
    have r2 := rR_le true (n := n) om
    rw [if_neg (show ¬ (n % 2 = 0 ∧ a < 0 ∧ 0 < b) by omega)]
    generalize rR false a n = x1 at *
    generalize rR false b n = x2 at *
    generalize rR true a n = x3 at *
    generalize rR true b n = x4 at *
    by_cases c : okF x1 = true ∧ okF x4 = true
    · have o1 := okF_true c.1
      have o4 := okF_true c.2
      have o2 : okF x2 = true := decide_eq_true (by omega)
      have o3 : okF x3 = true := decide_eq_true (by omega)
      rw [c.1] at h1; rw [c.2] at h4; rw [o2] at h2; rw [o3] at h3
      rw [h1, h2, h3, h4]
      rw [g1 h1, g2 h2, g3 h3, g4 h4, Int.min_eq_left r1, Int.max_eq_right r2, lim' _ _ (by omega)]; rfl
    · rw [if_neg (by simpa using c), if_neg]
      rw [h1, h2, h3, h4]; simp at c ⊢; grind

theorem okF_neg (x : Int) : okF (-x) = okF x := by
  unfold okF
  by_cases c : -4503599627370496 ≤ x ∧ x ≤ 4503599627370496
  · rw [decide_eq_true c, decide_eq_true (by omega)]
  · rw [decide_eq_false c, decide_eq_false (by omega)]
theorem rRaised_any (v : Int) (N : Nat) (up : Bool) (w : World) (v0 : -4503599627370496 ≤ v) (v1 : v ≤ 4503599627370496) (n1 : 1 ≤ N) (n16 : N ≤ 16) :
    Calls Tryz.prog 95 #[.int .i64 v, .int .i64 (N : Int), .bool up] w fun e w' => RP (rR up v N) e ∧ Below w.heap.size w w' := by
  by_cases h : 0 ≤ v
  · have hp := fun w => rPower_any v N up w h v1 n1 n16
    go_enter Tryz.func95, Tryz.ntmps95
    go_wp2_with (go_at_call 109; refine (hp _).mono ?_; rintro e w1 ⟨⟨out, f, rfl, rfl, ho, o0, o1⟩, hb⟩)
    go_ret2
    exact ⟨⟨out, _, rfl, rfl, ho, o0, o1⟩, by (repeat (first | with_reducible exact Below.refl _ _ | with_reducible assumption | refine Below.alloc ?_ (by (try simp); try omega) _ | refine Below.setCell ?_ (by (try simp); try omega) _ | refine below_drewN ?_ _ | refine Below.drew ?_ | (with_reducible refine Below.trans ?_ (Below.mono (by assumption) (by (try simp); try omega)))))⟩
  · by_cases hev : (N : Int) % 2 = 0
    · have hp := fun w => rPower_any (-v) N up w (by omega) (by omega) n1 n16
      rw [rR_neg_even up v N (by omega) hev] at hp
      go_enter Tryz.func95, Tryz.ntmps95
      go_wp2_with (go_at_call 109; refine (hp _).mono ?_; rintro e w1 ⟨⟨out, f, rfl, rfl, ho, o0, o1⟩, hb⟩)
      go_ret2
      exact ⟨⟨out, _, rfl, rfl, ho, o0, o1⟩, by (repeat (first | with_reducible exact Below.refl _ _ | with_reducible assumption | refine Below.alloc ?_ (by (try simp); try omega) _ | refine Below.setCell ?_ (by (try simp); try omega) _ | refine below_drewN ?_ _ | refine Below.drew ?_ | (with_reducible refine Below.trans ?_ (Below.mono (by assumption) (by (try simp); try omega)))))⟩
    · have hod : (N : Int) % 2 = 1 := by omega
      have hp := fun w => rPower_any (-v) N (!up) w (by omega) (by omega) n1 n16
      rw [rR_neg_odd (!up) v N (by omega) hod, Bool.not_not] at hp
      clear hev
      go_enter Tryz.func95, Tryz.ntmps95
      go_wp2_with (go_at_call 109; refine (hp _).mono ?_; rintro e w1 ⟨⟨out, f, rfl, rfl, ho, o0, o1⟩, hb⟩)
      go_ret2
      exact ⟨⟨-out, _, rfl, okF_neg _, (fun h => by have := ho h; omega), by omega, by omega⟩, by (repeat (first | with_reducible exact Below.refl _ _ | with_reducible assumption | refine Below.alloc ?_ (by (try simp); try omega) _ | refine Below.setCell ?_ (by (try simp); try omega) _ | refine below_drewN ?_ _ | refine Below.drew ?_ | (with_reducible refine Below.trans ?_ (Below.mono (by assumption) (by (try simp); try omega)))))⟩

theorem raised_ok (v : Int) (N : Nat) (up : Bool) (w : World) (v0 : -4503599627370496 ≤ v) (v1 : v ≤ 4503599627370496) (n1 : 1 ≤ N) (n16 : N ≤ 16) (g : okF (rR up v N) = true) :
    Calls Tryz.prog 95 #[.int .i64 v, .int .i64 (N : Int), .bool up] w fun e w' => e = .returned (.tuple #[.int .i64 (rR up v N), .bool true]) ∧ Below w.heap.size w w' := by
  refine (rRaised_any v N up w v0 v1 n1 n16).mono ?_
  rintro e w1 ⟨⟨out, f, rfl, rfl, ho, o0, o1⟩, hb⟩
  rw [ho g, g]
  exact ⟨rfl, hb⟩
/-- The result of a power that does not fit. -/
theorem result_no (l h : Int) (w : World) :
    Calls Tryz.prog 70 #[.int .i64 l, .int .i64 h, .bool false] w fun e w' => e = .returned (.tuple #[.agg #[.int .i64 0, .int .i64 0], .int .i64 6]) ∧ Below w.heap.size w w' := rResult_any l h false w

set_option maxHeartbeats 4000000 in
theorem rPow_in (a b : Int) (N : Nat) (w : World) (n1 : 1 ≤ N) (n16 : N ≤ 16) (k : ckS a b = 0) :
    Calls Tryz.prog 81 #[.agg #[.int .i64 a, .int .i64 b], .int .i64 (N : Int)] w fun e w' => e = .returned (.tuple #[.agg #[.int .i64 (sPowR a b N).1, .int .i64 (sPowR a b N).2.1], .int .i64 (sPowR a b N).2.2]) ∧ Below w.heap.size w w' := by
  have vk := valS k
  have hr := rRight_ok a b k
  have he := pow_eq a b N (rR false a N) (rR false b N) (rR true a N) (rR true b N) _ _ _ _ (by omega) (by omega) k rfl (fun _ => rfl) rfl (fun _ => rfl) rfl (fun _ => rfl) rfl (fun _ => rfl)
  have nz : ((N : Int) == 0) = false := by simp; omega
  by_cases g : okF (rR false a N) = true ∧ okF (rR false b N) = true ∧ okF (rR true a N) = true ∧ okF (rR true b N) = true
  · obtain ⟨g1, g2, g3, g4⟩ := g
    rw [g1, g2, g3, g4] at he
    have c1 := fun w => raised_ok a N false w vk.1 (by omega) n1 n16 g1
    have c2 := fun w => raised_ok b N false w (by omega) vk.2.2 n1 n16 g2
    have c3 := fun w => raised_ok a N true w vk.1 (by omega) n1 n16 g3
    have c4 := fun w => raised_ok b N true w (by omega) vk.2.2 n1 n16 g4
    clear g1 g2 g3 g4 vk k
    generalize rR false a N = x1 at *
    generalize rR false b N = x2 at *
    generalize rR true a N = x3 at *
    generalize rR true b N = x4 at *
    simp only [Bool.and_self, if_true] at he
    by_cases hev : (N : Int) % 2 = 0
    · by_cases ha : a < 0
      · by_cases hb : 0 < b
        · rw [if_pos (show (((N : Int)) % 2 = 0 ∧ a < 0 ∧ 0 < b) by omega)] at he
          have hq := fun w => rResult_any (0) (max x3 x4) true w
          rw [show resR (0) (max x3 x4) true = sPowR a b N by rw [he]; unfold resR; rw [if_pos rfl]] at hq
          generalize sPowR a b N = m at *
          clear he
          go_enter Tryz.func81, Tryz.ntmps81
          go_wp2_with (first | (go_at_call 50; (with_reducible refine (hr _).mono ?_); rintro e w1 ⟨rfl, hb1⟩; (with_reducible (first | (replace hb1 := undrewW hb1) | skip)); have hz1 : w.heap.size + 1 < w1.heap.size := (by have := hb1.size; (try simp at this); omega); have a01 : w1.cell? ⟨w.heap.size, 0, none⟩ = some (.int .i64 a) := bkeep hb1 (by first | (simp [go_sem]; done)); have a11 : w1.cell? ⟨w.heap.size, 1, none⟩ = some (.int .i64 b) := bkeep hb1 (by first | (simp [go_sem]; done)); have r01 : w1.cell? ⟨w.heap.size + 1, 0, none⟩ = some (.int .i64 0) := bkeep hb1 (by first | (simp [go_sem]; done)); have r11 : w1.cell? ⟨w.heap.size + 1, 1, none⟩ = some (.int .i64 0) := bkeep hb1 (by first | (simp [go_sem]; done)); have z01 : w1.frozen? ⟨w.heap.size + 1, 0, none⟩ = false := bfrz hb1 (by first | omega | (simp; done) | (simp; omega)) (by first | (simp [go_sem]; done)); have z11 : w1.frozen? ⟨w.heap.size + 1, 1, none⟩ = false := bfrz hb1 (by first | omega | (simp; done) | (simp; omega)) (by first | (simp [go_sem]; done))) | (go_at_call 95; (with_reducible refine (c1 _).mono ?_); rintro e w2 ⟨rfl, hb2⟩; (with_reducible (first | (replace hb2 := undrewW hb2) | skip)); have hz2 : w.heap.size + 1 < w2.heap.size := (by have := hb2.size; (try simp at this); omega); have a02 : w2.cell? ⟨w.heap.size, 0, none⟩ = some (.int .i64 a) := bkeep hb2 (by first | (simp [go_sem]; done) | (simp [go_sem, a01]; done) | exact a01); have a12 : w2.cell? ⟨w.heap.size, 1, none⟩ = some (.int .i64 b) := bkeep hb2 (by first | (simp [go_sem]; done) | (simp [go_sem, a11]; done) | exact a11); have r02 : w2.cell? ⟨w.heap.size + 1, 0, none⟩ = some (.int .i64 0) := bkeep hb2 (by first | (simp [go_sem]; done) | (simp [go_sem, r01]; done) | exact r01); have r12 : w2.cell? ⟨w.heap.size + 1, 1, none⟩ = some (.int .i64 0) := bkeep hb2 (by first | (simp [go_sem]; done) | (simp [go_sem, r11]; done) | exact r11); have z02 : w2.frozen? ⟨w.heap.size + 1, 0, none⟩ = false := bfrz hb2 (by first | omega | (simp; done) | (simp; omega)) (by first | (simp [go_sem]; done) | (simp [go_sem, z01]; done) | exact z01); have z12 : w2.frozen? ⟨w.heap.size + 1, 1, none⟩ = false := bfrz hb2 (by first | omega | (simp; done) | (simp; omega)) (by first | (simp [go_sem]; done) | (simp [go_sem, z11]; done) | exact z11)) | (go_at_call 95; (with_reducible refine (c2 _).mono ?_); rintro e w3 ⟨rfl, hb3⟩; (with_reducible (first | (replace hb3 := undrewW hb3) | skip)); have hz3 : w.heap.size + 1 < w3.heap.size := (by have := hb3.size; (try simp at this); omega); have a03 : w3.cell? ⟨w.heap.size, 0, none⟩ = some (.int .i64 a) := bkeep hb3 (by first | (simp [go_sem]; done) | (simp [go_sem, a02]; done) | exact a02); have a13 : w3.cell? ⟨w.heap.size, 1, none⟩ = some (.int .i64 b) := bkeep hb3 (by first | (simp [go_sem]; done) | (simp [go_sem, a12]; done) | exact a12); have r03 : w3.cell? ⟨w.heap.size + 1, 0, none⟩ = some (.int .i64 0) := bkeep hb3 (by first | (simp [go_sem]; done) | (simp [go_sem, r02]; done) | exact r02); have r13 : w3.cell? ⟨w.heap.size + 1, 1, none⟩ = some (.int .i64 0) := bkeep hb3 (by first | (simp [go_sem]; done) | (simp [go_sem, r12]; done) | exact r12); have z03 : w3.frozen? ⟨w.heap.size + 1, 0, none⟩ = false := bfrz hb3 (by first | omega | (simp; done) | (simp; omega)) (by first | (simp [go_sem]; done) | (simp [go_sem, z02]; done) | exact z02); have z13 : w3.frozen? ⟨w.heap.size + 1, 1, none⟩ = false := bfrz hb3 (by first | omega | (simp; done) | (simp; omega)) (by first | (simp [go_sem]; done) | (simp [go_sem, z12]; done) | exact z12)) | (go_at_call 95; (with_reducible refine (c3 _).mono ?_); rintro e w4 ⟨rfl, hb4⟩; (with_reducible (first | (replace hb4 := undrewW hb4) | skip)); have hz4 : w.heap.size + 1 < w4.heap.size := (by have := hb4.size; (try simp at this); omega); have a04 : w4.cell? ⟨w.heap.size, 0, none⟩ = some (.int .i64 a) := bkeep hb4 (by first | (simp [go_sem]; done) | (simp [go_sem, a03]; done) | exact a03); have a14 : w4.cell? ⟨w.heap.size, 1, none⟩ = some (.int .i64 b) := bkeep hb4 (by first | (simp [go_sem]; done) | (simp [go_sem, a13]; done) | exact a13); have r04 : w4.cell? ⟨w.heap.size + 1, 0, none⟩ = some (.int .i64 0) := bkeep hb4 (by first | (simp [go_sem]; done) | (simp [go_sem, r03]; done) | exact r03); have r14 : w4.cell? ⟨w.heap.size + 1, 1, none⟩ = some (.int .i64 0) := bkeep hb4 (by first | (simp [go_sem]; done) | (simp [go_sem, r13]; done) | exact r13); have z04 : w4.frozen? ⟨w.heap.size + 1, 0, none⟩ = false := bfrz hb4 (by first | omega | (simp; done) | (simp; omega)) (by first | (simp [go_sem]; done) | (simp [go_sem, z03]; done) | exact z03); have z14 : w4.frozen? ⟨w.heap.size + 1, 1, none⟩ = false := bfrz hb4 (by first | omega | (simp; done) | (simp; omega)) (by first | (simp [go_sem]; done) | (simp [go_sem, z13]; done) | exact z13)) | (go_at_call 95; (with_reducible refine (c4 _).mono ?_); rintro e w5 ⟨rfl, hb5⟩; (with_reducible (first | (replace hb5 := undrewW hb5) | skip)); have hz5 : w.heap.size + 1 < w5.heap.size := (by have := hb5.size; (try simp at this); omega); have a05 : w5.cell? ⟨w.heap.size, 0, none⟩ = some (.int .i64 a) := bkeep hb5 (by first | (simp [go_sem]; done) | (simp [go_sem, a04]; done) | exact a04); have a15 : w5.cell? ⟨w.heap.size, 1, none⟩ = some (.int .i64 b) := bkeep hb5 (by first | (simp [go_sem]; done) | (simp [go_sem, a14]; done) | exact a14); have r05 : w5.cell? ⟨w.heap.size + 1, 0, none⟩ = some (.int .i64 0) := bkeep hb5 (by first | (simp [go_sem]; done) | (simp [go_sem, r04]; done) | exact r04); have r15 : w5.cell? ⟨w.heap.size + 1, 1, none⟩ = some (.int .i64 0) := bkeep hb5 (by first | (simp [go_sem]; done) | (simp [go_sem, r14]; done) | exact r14); have z05 : w5.frozen? ⟨w.heap.size + 1, 0, none⟩ = false := bfrz hb5 (by first | omega | (simp; done) | (simp; omega)) (by first | (simp [go_sem]; done) | (simp [go_sem, z04]; done) | exact z04); have z15 : w5.frozen? ⟨w.heap.size + 1, 1, none⟩ = false := bfrz hb5 (by first | omega | (simp; done) | (simp; omega)) (by first | (simp [go_sem]; done) | (simp [go_sem, z14]; done) | exact z14)) | (go_at_call 70; (with_reducible refine (hq _).mono ?_); rintro e w6 ⟨rfl, hb6⟩; (with_reducible (first | (replace hb6 := undrewW hb6) | skip)); have hz6 : w.heap.size + 1 < w6.heap.size := (by have := hb6.size; (try simp at this); omega); have a06 : w6.cell? ⟨w.heap.size, 0, none⟩ = some (.int .i64 a) := bkeep hb6 (by first | (simp [go_sem]; done) | (simp [go_sem, a05]; done) | exact a05); have a16 : w6.cell? ⟨w.heap.size, 1, none⟩ = some (.int .i64 b) := bkeep hb6 (by first | (simp [go_sem]; done) | (simp [go_sem, a15]; done) | exact a15); have r06 : w6.cell? ⟨w.heap.size + 1, 0, none⟩ = some (.int .i64 0) := bkeep hb6 (by first | (simp [go_sem]; done) | (simp [go_sem, r05]; done) | exact r05); have r16 : w6.cell? ⟨w.heap.size + 1, 1, none⟩ = some (.int .i64 0) := bkeep hb6 (by first | (simp [go_sem]; done) | (simp [go_sem, r15]; done) | exact r15); have z06 : w6.frozen? ⟨w.heap.size + 1, 0, none⟩ = false := bfrz hb6 (by first | omega | (simp; done) | (simp; omega)) (by first | (simp [go_sem]; done) | (simp [go_sem, z05]; done) | exact z05); have z16 : w6.frozen? ⟨w.heap.size + 1, 1, none⟩ = false := bfrz hb6 (by first | omega | (simp; done) | (simp; omega)) (by first | (simp [go_sem]; done) | (simp [go_sem, z15]; done) | exact z15)))
          exact bodyPost_ret (v := .tuple #[.agg #[.int .i64 (m.1), .int .i64 (m.2.1)], .int .i64 (m.2.2)]) (by simp [results, Tryz.results81, go_sem, r06, r16]) rfl ⟨rfl, by (repeat (first | with_reducible exact Below.refl _ _ | with_reducible assumption | refine Below.alloc ?_ (by (try simp); try omega) _ | refine Below.setCell ?_ (by (try simp); try omega) _ | refine below_drewN ?_ _ | refine Below.drew ?_ | (with_reducible refine Below.trans ?_ (Below.mono (by assumption) (by (try simp); try omega)))))⟩
        · rw [if_neg (show ¬ (((N : Int)) % 2 = 0 ∧ a < 0 ∧ 0 < b) by omega)] at he
          have hq := fun w => rResult_any (min x1 x2) (max x3 x4) true w
          rw [show resR (min x1 x2) (max x3 x4) true = sPowR a b N by rw [he]; unfold resR; rw [if_pos rfl]] at hq
          generalize sPowR a b N = m at *
          clear he
          go_enter Tryz.func81, Tryz.ntmps81
          go_wp2_with (first | (go_at_call 50; (with_reducible refine (hr _).mono ?_); rintro e w1 ⟨rfl, hb1⟩; (with_reducible (first | (replace hb1 := undrewW hb1) | skip)); have hz1 : w.heap.size + 1 < w1.heap.size := (by have := hb1.size; (try simp at this); omega); have a01 : w1.cell? ⟨w.heap.size, 0, none⟩ = some (.int .i64 a) := bkeep hb1 (by first | (simp [go_sem]; done)); have a11 : w1.cell? ⟨w.heap.size, 1, none⟩ = some (.int .i64 b) := bkeep hb1 (by first | (simp [go_sem]; done)); have r01 : w1.cell? ⟨w.heap.size + 1, 0, none⟩ = some (.int .i64 0) := bkeep hb1 (by first | (simp [go_sem]; done)); have r11 : w1.cell? ⟨w.heap.size + 1, 1, none⟩ = some (.int .i64 0) := bkeep hb1 (by first | (simp [go_sem]; done)); have z01 : w1.frozen? ⟨w.heap.size + 1, 0, none⟩ = false := bfrz hb1 (by first | omega | (simp; done) | (simp; omega)) (by first | (simp [go_sem]; done)); have z11 : w1.frozen? ⟨w.heap.size + 1, 1, none⟩ = false := bfrz hb1 (by first | omega | (simp; done) | (simp; omega)) (by first | (simp [go_sem]; done))) | (go_at_call 95; (with_reducible refine (c1 _).mono ?_); rintro e w2 ⟨rfl, hb2⟩; (with_reducible (first | (replace hb2 := undrewW hb2) | skip)); have hz2 : w.heap.size + 1 < w2.heap.size := (by have := hb2.size; (try simp at this); omega); have a02 : w2.cell? ⟨w.heap.size, 0, none⟩ = some (.int .i64 a) := bkeep hb2 (by first | (simp [go_sem]; done) | (simp [go_sem, a01]; done) | exact a01); have a12 : w2.cell? ⟨w.heap.size, 1, none⟩ = some (.int .i64 b) := bkeep hb2 (by first | (simp [go_sem]; done) | (simp [go_sem, a11]; done) | exact a11); have r02 : w2.cell? ⟨w.heap.size + 1, 0, none⟩ = some (.int .i64 0) := bkeep hb2 (by first | (simp [go_sem]; done) | (simp [go_sem, r01]; done) | exact r01); have r12 : w2.cell? ⟨w.heap.size + 1, 1, none⟩ = some (.int .i64 0) := bkeep hb2 (by first | (simp [go_sem]; done) | (simp [go_sem, r11]; done) | exact r11); have z02 : w2.frozen? ⟨w.heap.size + 1, 0, none⟩ = false := bfrz hb2 (by first | omega | (simp; done) | (simp; omega)) (by first | (simp [go_sem]; done) | (simp [go_sem, z01]; done) | exact z01); have z12 : w2.frozen? ⟨w.heap.size + 1, 1, none⟩ = false := bfrz hb2 (by first | omega | (simp; done) | (simp; omega)) (by first | (simp [go_sem]; done) | (simp [go_sem, z11]; done) | exact z11)) | (go_at_call 95; (with_reducible refine (c2 _).mono ?_); rintro e w3 ⟨rfl, hb3⟩; (with_reducible (first | (replace hb3 := undrewW hb3) | skip)); have hz3 : w.heap.size + 1 < w3.heap.size := (by have := hb3.size; (try simp at this); omega); have a03 : w3.cell? ⟨w.heap.size, 0, none⟩ = some (.int .i64 a) := bkeep hb3 (by first | (simp [go_sem]; done) | (simp [go_sem, a02]; done) | exact a02); have a13 : w3.cell? ⟨w.heap.size, 1, none⟩ = some (.int .i64 b) := bkeep hb3 (by first | (simp [go_sem]; done) | (simp [go_sem, a12]; done) | exact a12); have r03 : w3.cell? ⟨w.heap.size + 1, 0, none⟩ = some (.int .i64 0) := bkeep hb3 (by first | (simp [go_sem]; done) | (simp [go_sem, r02]; done) | exact r02); have r13 : w3.cell? ⟨w.heap.size + 1, 1, none⟩ = some (.int .i64 0) := bkeep hb3 (by first | (simp [go_sem]; done) | (simp [go_sem, r12]; done) | exact r12); have z03 : w3.frozen? ⟨w.heap.size + 1, 0, none⟩ = false := bfrz hb3 (by first | omega | (simp; done) | (simp; omega)) (by first | (simp [go_sem]; done) | (simp [go_sem, z02]; done) | exact z02); have z13 : w3.frozen? ⟨w.heap.size + 1, 1, none⟩ = false := bfrz hb3 (by first | omega | (simp; done) | (simp; omega)) (by first | (simp [go_sem]; done) | (simp [go_sem, z12]; done) | exact z12)) | (go_at_call 95; (with_reducible refine (c3 _).mono ?_); rintro e w4 ⟨rfl, hb4⟩; (with_reducible (first | (replace hb4 := undrewW hb4) | skip)); have hz4 : w.heap.size + 1 < w4.heap.size := (by have := hb4.size; (try simp at this); omega); have a04 : w4.cell? ⟨w.heap.size, 0, none⟩ = some (.int .i64 a) := bkeep hb4 (by first | (simp [go_sem]; done) | (simp [go_sem, a03]; done) | exact a03); have a14 : w4.cell? ⟨w.heap.size, 1, none⟩ = some (.int .i64 b) := bkeep hb4 (by first | (simp [go_sem]; done) | (simp [go_sem, a13]; done) | exact a13); have r04 : w4.cell? ⟨w.heap.size + 1, 0, none⟩ = some (.int .i64 0) := bkeep hb4 (by first | (simp [go_sem]; done) | (simp [go_sem, r03]; done) | exact r03); have r14 : w4.cell? ⟨w.heap.size + 1, 1, none⟩ = some (.int .i64 0) := bkeep hb4 (by first | (simp [go_sem]; done) | (simp [go_sem, r13]; done) | exact r13); have z04 : w4.frozen? ⟨w.heap.size + 1, 0, none⟩ = false := bfrz hb4 (by first | omega | (simp; done) | (simp; omega)) (by first | (simp [go_sem]; done) | (simp [go_sem, z03]; done) | exact z03); have z14 : w4.frozen? ⟨w.heap.size + 1, 1, none⟩ = false := bfrz hb4 (by first | omega | (simp; done) | (simp; omega)) (by first | (simp [go_sem]; done) | (simp [go_sem, z13]; done) | exact z13)) | (go_at_call 95; (with_reducible refine (c4 _).mono ?_); rintro e w5 ⟨rfl, hb5⟩; (with_reducible (first | (replace hb5 := undrewW hb5) | skip)); have hz5 : w.heap.size + 1 < w5.heap.size := (by have := hb5.size; (try simp at this); omega); have a05 : w5.cell? ⟨w.heap.size, 0, none⟩ = some (.int .i64 a) := bkeep hb5 (by first | (simp [go_sem]; done) | (simp [go_sem, a04]; done) | exact a04); have a15 : w5.cell? ⟨w.heap.size, 1, none⟩ = some (.int .i64 b) := bkeep hb5 (by first | (simp [go_sem]; done) | (simp [go_sem, a14]; done) | exact a14); have r05 : w5.cell? ⟨w.heap.size + 1, 0, none⟩ = some (.int .i64 0) := bkeep hb5 (by first | (simp [go_sem]; done) | (simp [go_sem, r04]; done) | exact r04); have r15 : w5.cell? ⟨w.heap.size + 1, 1, none⟩ = some (.int .i64 0) := bkeep hb5 (by first | (simp [go_sem]; done) | (simp [go_sem, r14]; done) | exact r14); have z05 : w5.frozen? ⟨w.heap.size + 1, 0, none⟩ = false := bfrz hb5 (by first | omega | (simp; done) | (simp; omega)) (by first | (simp [go_sem]; done) | (simp [go_sem, z04]; done) | exact z04); have z15 : w5.frozen? ⟨w.heap.size + 1, 1, none⟩ = false := bfrz hb5 (by first | omega | (simp; done) | (simp; omega)) (by first | (simp [go_sem]; done) | (simp [go_sem, z14]; done) | exact z14)) | (go_at_call 70; (with_reducible refine (hq _).mono ?_); rintro e w6 ⟨rfl, hb6⟩; (with_reducible (first | (replace hb6 := undrewW hb6) | skip)); have hz6 : w.heap.size + 1 < w6.heap.size := (by have := hb6.size; (try simp at this); omega); have a06 : w6.cell? ⟨w.heap.size, 0, none⟩ = some (.int .i64 a) := bkeep hb6 (by first | (simp [go_sem]; done) | (simp [go_sem, a05]; done) | exact a05); have a16 : w6.cell? ⟨w.heap.size, 1, none⟩ = some (.int .i64 b) := bkeep hb6 (by first | (simp [go_sem]; done) | (simp [go_sem, a15]; done) | exact a15); have r06 : w6.cell? ⟨w.heap.size + 1, 0, none⟩ = some (.int .i64 0) := bkeep hb6 (by first | (simp [go_sem]; done) | (simp [go_sem, r05]; done) | exact r05); have r16 : w6.cell? ⟨w.heap.size + 1, 1, none⟩ = some (.int .i64 0) := bkeep hb6 (by first | (simp [go_sem]; done) | (simp [go_sem, r15]; done) | exact r15); have z06 : w6.frozen? ⟨w.heap.size + 1, 0, none⟩ = false := bfrz hb6 (by first | omega | (simp; done) | (simp; omega)) (by first | (simp [go_sem]; done) | (simp [go_sem, z05]; done) | exact z05); have z16 : w6.frozen? ⟨w.heap.size + 1, 1, none⟩ = false := bfrz hb6 (by first | omega | (simp; done) | (simp; omega)) (by first | (simp [go_sem]; done) | (simp [go_sem, z15]; done) | exact z15)))
          exact bodyPost_ret (v := .tuple #[.agg #[.int .i64 (m.1), .int .i64 (m.2.1)], .int .i64 (m.2.2)]) (by simp [results, Tryz.results81, go_sem, r06, r16]) rfl ⟨rfl, by (repeat (first | with_reducible exact Below.refl _ _ | with_reducible assumption | refine Below.alloc ?_ (by (try simp); try omega) _ | refine Below.setCell ?_ (by (try simp); try omega) _ | refine below_drewN ?_ _ | refine Below.drew ?_ | (with_reducible refine Below.trans ?_ (Below.mono (by assumption) (by (try simp); try omega)))))⟩
      · rw [if_neg (show ¬ (((N : Int)) % 2 = 0 ∧ a < 0 ∧ 0 < b) by omega)] at he
        have hq := fun w => rResult_any (min x1 x2) (max x3 x4) true w
        rw [show resR (min x1 x2) (max x3 x4) true = sPowR a b N by rw [he]; unfold resR; rw [if_pos rfl]] at hq
        generalize sPowR a b N = m at *
        clear he
        go_enter Tryz.func81, Tryz.ntmps81
        go_wp2_with (first | (go_at_call 50; (with_reducible refine (hr _).mono ?_); rintro e w1 ⟨rfl, hb1⟩; (with_reducible (first | (replace hb1 := undrewW hb1) | skip)); have hz1 : w.heap.size + 1 < w1.heap.size := (by have := hb1.size; (try simp at this); omega); have a01 : w1.cell? ⟨w.heap.size, 0, none⟩ = some (.int .i64 a) := bkeep hb1 (by first | (simp [go_sem]; done)); have a11 : w1.cell? ⟨w.heap.size, 1, none⟩ = some (.int .i64 b) := bkeep hb1 (by first | (simp [go_sem]; done)); have r01 : w1.cell? ⟨w.heap.size + 1, 0, none⟩ = some (.int .i64 0) := bkeep hb1 (by first | (simp [go_sem]; done)); have r11 : w1.cell? ⟨w.heap.size + 1, 1, none⟩ = some (.int .i64 0) := bkeep hb1 (by first | (simp [go_sem]; done)); have z01 : w1.frozen? ⟨w.heap.size + 1, 0, none⟩ = false := bfrz hb1 (by first | omega | (simp; done) | (simp; omega)) (by first | (simp [go_sem]; done)); have z11 : w1.frozen? ⟨w.heap.size + 1, 1, none⟩ = false := bfrz hb1 (by first | omega | (simp; done) | (simp; omega)) (by first | (simp [go_sem]; done))) | (go_at_call 95; (with_reducible refine (c1 _).mono ?_); rintro e w2 ⟨rfl, hb2⟩; (with_reducible (first | (replace hb2 := undrewW hb2) | skip)); have hz2 : w.heap.size + 1 < w2.heap.size := (by have := hb2.size; (try simp at this); omega); have a02 : w2.cell? ⟨w.heap.size, 0, none⟩ = some (.int .i64 a) := bkeep hb2 (by first | (simp [go_sem]; done) | (simp [go_sem, a01]; done) | exact a01); have a12 : w2.cell? ⟨w.heap.size, 1, none⟩ = some (.int .i64 b) := bkeep hb2 (by first | (simp [go_sem]; done) | (simp [go_sem, a11]; done) | exact a11); have r02 : w2.cell? ⟨w.heap.size + 1, 0, none⟩ = some (.int .i64 0) := bkeep hb2 (by first | (simp [go_sem]; done) | (simp [go_sem, r01]; done) | exact r01); have r12 : w2.cell? ⟨w.heap.size + 1, 1, none⟩ = some (.int .i64 0) := bkeep hb2 (by first | (simp [go_sem]; done) | (simp [go_sem, r11]; done) | exact r11); have z02 : w2.frozen? ⟨w.heap.size + 1, 0, none⟩ = false := bfrz hb2 (by first | omega | (simp; done) | (simp; omega)) (by first | (simp [go_sem]; done) | (simp [go_sem, z01]; done) | exact z01); have z12 : w2.frozen? ⟨w.heap.size + 1, 1, none⟩ = false := bfrz hb2 (by first | omega | (simp; done) | (simp; omega)) (by first | (simp [go_sem]; done) | (simp [go_sem, z11]; done) | exact z11)) | (go_at_call 95; (with_reducible refine (c2 _).mono ?_); rintro e w3 ⟨rfl, hb3⟩; (with_reducible (first | (replace hb3 := undrewW hb3) | skip)); have hz3 : w.heap.size + 1 < w3.heap.size := (by have := hb3.size; (try simp at this); omega); have a03 : w3.cell? ⟨w.heap.size, 0, none⟩ = some (.int .i64 a) := bkeep hb3 (by first | (simp [go_sem]; done) | (simp [go_sem, a02]; done) | exact a02); have a13 : w3.cell? ⟨w.heap.size, 1, none⟩ = some (.int .i64 b) := bkeep hb3 (by first | (simp [go_sem]; done) | (simp [go_sem, a12]; done) | exact a12); have r03 : w3.cell? ⟨w.heap.size + 1, 0, none⟩ = some (.int .i64 0) := bkeep hb3 (by first | (simp [go_sem]; done) | (simp [go_sem, r02]; done) | exact r02); have r13 : w3.cell? ⟨w.heap.size + 1, 1, none⟩ = some (.int .i64 0) := bkeep hb3 (by first | (simp [go_sem]; done) | (simp [go_sem, r12]; done) | exact r12); have z03 : w3.frozen? ⟨w.heap.size + 1, 0, none⟩ = false := bfrz hb3 (by first | omega | (simp; done) | (simp; omega)) (by first | (simp [go_sem]; done) | (simp [go_sem, z02]; done) | exact z02); have z13 : w3.frozen? ⟨w.heap.size + 1, 1, none⟩ = false := bfrz hb3 (by first | omega | (simp; done) | (simp; omega)) (by first | (simp [go_sem]; done) | (simp [go_sem, z12]; done) | exact z12)) | (go_at_call 95; (with_reducible refine (c3 _).mono ?_); rintro e w4 ⟨rfl, hb4⟩; (with_reducible (first | (replace hb4 := undrewW hb4) | skip)); have hz4 : w.heap.size + 1 < w4.heap.size := (by have := hb4.size; (try simp at this); omega); have a04 : w4.cell? ⟨w.heap.size, 0, none⟩ = some (.int .i64 a) := bkeep hb4 (by first | (simp [go_sem]; done) | (simp [go_sem, a03]; done) | exact a03); have a14 : w4.cell? ⟨w.heap.size, 1, none⟩ = some (.int .i64 b) := bkeep hb4 (by first | (simp [go_sem]; done) | (simp [go_sem, a13]; done) | exact a13); have r04 : w4.cell? ⟨w.heap.size + 1, 0, none⟩ = some (.int .i64 0) := bkeep hb4 (by first | (simp [go_sem]; done) | (simp [go_sem, r03]; done) | exact r03); have r14 : w4.cell? ⟨w.heap.size + 1, 1, none⟩ = some (.int .i64 0) := bkeep hb4 (by first | (simp [go_sem]; done) | (simp [go_sem, r13]; done) | exact r13); have z04 : w4.frozen? ⟨w.heap.size + 1, 0, none⟩ = false := bfrz hb4 (by first | omega | (simp; done) | (simp; omega)) (by first | (simp [go_sem]; done) | (simp [go_sem, z03]; done) | exact z03); have z14 : w4.frozen? ⟨w.heap.size + 1, 1, none⟩ = false := bfrz hb4 (by first | omega | (simp; done) | (simp; omega)) (by first | (simp [go_sem]; done) | (simp [go_sem, z13]; done) | exact z13)) | (go_at_call 95; (with_reducible refine (c4 _).mono ?_); rintro e w5 ⟨rfl, hb5⟩; (with_reducible (first | (replace hb5 := undrewW hb5) | skip)); have hz5 : w.heap.size + 1 < w5.heap.size := (by have := hb5.size; (try simp at this); omega); have a05 : w5.cell? ⟨w.heap.size, 0, none⟩ = some (.int .i64 a) := bkeep hb5 (by first | (simp [go_sem]; done) | (simp [go_sem, a04]; done) | exact a04); have a15 : w5.cell? ⟨w.heap.size, 1, none⟩ = some (.int .i64 b) := bkeep hb5 (by first | (simp [go_sem]; done) | (simp [go_sem, a14]; done) | exact a14); have r05 : w5.cell? ⟨w.heap.size + 1, 0, none⟩ = some (.int .i64 0) := bkeep hb5 (by first | (simp [go_sem]; done) | (simp [go_sem, r04]; done) | exact r04); have r15 : w5.cell? ⟨w.heap.size + 1, 1, none⟩ = some (.int .i64 0) := bkeep hb5 (by first | (simp [go_sem]; done) | (simp [go_sem, r14]; done) | exact r14); have z05 : w5.frozen? ⟨w.heap.size + 1, 0, none⟩ = false := bfrz hb5 (by first | omega | (simp; done) | (simp; omega)) (by first | (simp [go_sem]; done) | (simp [go_sem, z04]; done) | exact z04); have z15 : w5.frozen? ⟨w.heap.size + 1, 1, none⟩ = false := bfrz hb5 (by first | omega | (simp; done) | (simp; omega)) (by first | (simp [go_sem]; done) | (simp [go_sem, z14]; done) | exact z14)) | (go_at_call 70; (with_reducible refine (hq _).mono ?_); rintro e w6 ⟨rfl, hb6⟩; (with_reducible (first | (replace hb6 := undrewW hb6) | skip)); have hz6 : w.heap.size + 1 < w6.heap.size := (by have := hb6.size; (try simp at this); omega); have a06 : w6.cell? ⟨w.heap.size, 0, none⟩ = some (.int .i64 a) := bkeep hb6 (by first | (simp [go_sem]; done) | (simp [go_sem, a05]; done) | exact a05); have a16 : w6.cell? ⟨w.heap.size, 1, none⟩ = some (.int .i64 b) := bkeep hb6 (by first | (simp [go_sem]; done) | (simp [go_sem, a15]; done) | exact a15); have r06 : w6.cell? ⟨w.heap.size + 1, 0, none⟩ = some (.int .i64 0) := bkeep hb6 (by first | (simp [go_sem]; done) | (simp [go_sem, r05]; done) | exact r05); have r16 : w6.cell? ⟨w.heap.size + 1, 1, none⟩ = some (.int .i64 0) := bkeep hb6 (by first | (simp [go_sem]; done) | (simp [go_sem, r15]; done) | exact r15); have z06 : w6.frozen? ⟨w.heap.size + 1, 0, none⟩ = false := bfrz hb6 (by first | omega | (simp; done) | (simp; omega)) (by first | (simp [go_sem]; done) | (simp [go_sem, z05]; done) | exact z05); have z16 : w6.frozen? ⟨w.heap.size + 1, 1, none⟩ = false := bfrz hb6 (by first | omega | (simp; done) | (simp; omega)) (by first | (simp [go_sem]; done) | (simp [go_sem, z15]; done) | exact z15)))
        exact bodyPost_ret (v := .tuple #[.agg #[.int .i64 (m.1), .int .i64 (m.2.1)], .int .i64 (m.2.2)]) (by simp [results, Tryz.results81, go_sem, r06, r16]) rfl ⟨rfl, by (repeat (first | with_reducible exact Below.refl _ _ | with_reducible assumption | refine Below.alloc ?_ (by (try simp); try omega) _ | refine Below.setCell ?_ (by (try simp); try omega) _ | refine below_drewN ?_ _ | refine Below.drew ?_ | (with_reducible refine Below.trans ?_ (Below.mono (by assumption) (by (try simp); try omega)))))⟩
    · have hod : (N : Int) % 2 = 1 := by omega
      rw [if_neg (show ¬ (((N : Int)) % 2 = 0 ∧ a < 0 ∧ 0 < b) by omega)] at he
      clear hev
      have hq := fun w => rResult_any (min x1 x2) (max x3 x4) true w
      rw [show resR (min x1 x2) (max x3 x4) true = sPowR a b N by rw [he]; unfold resR; rw [if_pos rfl]] at hq
      generalize sPowR a b N = m at *
      clear he
      go_enter Tryz.func81, Tryz.ntmps81
      go_wp2_with (first | (go_at_call 50; (with_reducible refine (hr _).mono ?_); rintro e w1 ⟨rfl, hb1⟩; (with_reducible (first | (replace hb1 := undrewW hb1) | skip)); have hz1 : w.heap.size + 1 < w1.heap.size := (by have := hb1.size; (try simp at this); omega); have a01 : w1.cell? ⟨w.heap.size, 0, none⟩ = some (.int .i64 a) := bkeep hb1 (by first | (simp [go_sem]; done)); have a11 : w1.cell? ⟨w.heap.size, 1, none⟩ = some (.int .i64 b) := bkeep hb1 (by first | (simp [go_sem]; done)); have r01 : w1.cell? ⟨w.heap.size + 1, 0, none⟩ = some (.int .i64 0) := bkeep hb1 (by first | (simp [go_sem]; done)); have r11 : w1.cell? ⟨w.heap.size + 1, 1, none⟩ = some (.int .i64 0) := bkeep hb1 (by first | (simp [go_sem]; done)); have z01 : w1.frozen? ⟨w.heap.size + 1, 0, none⟩ = false := bfrz hb1 (by first | omega | (simp; done) | (simp; omega)) (by first | (simp [go_sem]; done)); have z11 : w1.frozen? ⟨w.heap.size + 1, 1, none⟩ = false := bfrz hb1 (by first | omega | (simp; done) | (simp; omega)) (by first | (simp [go_sem]; done))) | (go_at_call 95; (with_reducible refine (c1 _).mono ?_); rintro e w2 ⟨rfl, hb2⟩; (with_reducible (first | (replace hb2 := undrewW hb2) | skip)); have hz2 : w.heap.size + 1 < w2.heap.size := (by have := hb2.size; (try simp at this); omega); have a02 : w2.cell? ⟨w.heap.size, 0, none⟩ = some (.int .i64 a) := bkeep hb2 (by first | (simp [go_sem]; done) | (simp [go_sem, a01]; done) | exact a01); have a12 : w2.cell? ⟨w.heap.size, 1, none⟩ = some (.int .i64 b) := bkeep hb2 (by first | (simp [go_sem]; done) | (simp [go_sem, a11]; done) | exact a11); have r02 : w2.cell? ⟨w.heap.size + 1, 0, none⟩ = some (.int .i64 0) := bkeep hb2 (by first | (simp [go_sem]; done) | (simp [go_sem, r01]; done) | exact r01); have r12 : w2.cell? ⟨w.heap.size + 1, 1, none⟩ = some (.int .i64 0) := bkeep hb2 (by first | (simp [go_sem]; done) | (simp [go_sem, r11]; done) | exact r11); have z02 : w2.frozen? ⟨w.heap.size + 1, 0, none⟩ = false := bfrz hb2 (by first | omega | (simp; done) | (simp; omega)) (by first | (simp [go_sem]; done) | (simp [go_sem, z01]; done) | exact z01); have z12 : w2.frozen? ⟨w.heap.size + 1, 1, none⟩ = false := bfrz hb2 (by first | omega | (simp; done) | (simp; omega)) (by first | (simp [go_sem]; done) | (simp [go_sem, z11]; done) | exact z11)) | (go_at_call 95; (with_reducible refine (c2 _).mono ?_); rintro e w3 ⟨rfl, hb3⟩; (with_reducible (first | (replace hb3 := undrewW hb3) | skip)); have hz3 : w.heap.size + 1 < w3.heap.size := (by have := hb3.size; (try simp at this); omega); have a03 : w3.cell? ⟨w.heap.size, 0, none⟩ = some (.int .i64 a) := bkeep hb3 (by first | (simp [go_sem]; done) | (simp [go_sem, a02]; done) | exact a02); have a13 : w3.cell? ⟨w.heap.size, 1, none⟩ = some (.int .i64 b) := bkeep hb3 (by first | (simp [go_sem]; done) | (simp [go_sem, a12]; done) | exact a12); have r03 : w3.cell? ⟨w.heap.size + 1, 0, none⟩ = some (.int .i64 0) := bkeep hb3 (by first | (simp [go_sem]; done) | (simp [go_sem, r02]; done) | exact r02); have r13 : w3.cell? ⟨w.heap.size + 1, 1, none⟩ = some (.int .i64 0) := bkeep hb3 (by first | (simp [go_sem]; done) | (simp [go_sem, r12]; done) | exact r12); have z03 : w3.frozen? ⟨w.heap.size + 1, 0, none⟩ = false := bfrz hb3 (by first | omega | (simp; done) | (simp; omega)) (by first | (simp [go_sem]; done) | (simp [go_sem, z02]; done) | exact z02); have z13 : w3.frozen? ⟨w.heap.size + 1, 1, none⟩ = false := bfrz hb3 (by first | omega | (simp; done) | (simp; omega)) (by first | (simp [go_sem]; done) | (simp [go_sem, z12]; done) | exact z12)) | (go_at_call 95; (with_reducible refine (c3 _).mono ?_); rintro e w4 ⟨rfl, hb4⟩; (with_reducible (first | (replace hb4 := undrewW hb4) | skip)); have hz4 : w.heap.size + 1 < w4.heap.size := (by have := hb4.size; (try simp at this); omega); have a04 : w4.cell? ⟨w.heap.size, 0, none⟩ = some (.int .i64 a) := bkeep hb4 (by first | (simp [go_sem]; done) | (simp [go_sem, a03]; done) | exact a03); have a14 : w4.cell? ⟨w.heap.size, 1, none⟩ = some (.int .i64 b) := bkeep hb4 (by first | (simp [go_sem]; done) | (simp [go_sem, a13]; done) | exact a13); have r04 : w4.cell? ⟨w.heap.size + 1, 0, none⟩ = some (.int .i64 0) := bkeep hb4 (by first | (simp [go_sem]; done) | (simp [go_sem, r03]; done) | exact r03); have r14 : w4.cell? ⟨w.heap.size + 1, 1, none⟩ = some (.int .i64 0) := bkeep hb4 (by first | (simp [go_sem]; done) | (simp [go_sem, r13]; done) | exact r13); have z04 : w4.frozen? ⟨w.heap.size + 1, 0, none⟩ = false := bfrz hb4 (by first | omega | (simp; done) | (simp; omega)) (by first | (simp [go_sem]; done) | (simp [go_sem, z03]; done) | exact z03); have z14 : w4.frozen? ⟨w.heap.size + 1, 1, none⟩ = false := bfrz hb4 (by first | omega | (simp; done) | (simp; omega)) (by first | (simp [go_sem]; done) | (simp [go_sem, z13]; done) | exact z13)) | (go_at_call 95; (with_reducible refine (c4 _).mono ?_); rintro e w5 ⟨rfl, hb5⟩; (with_reducible (first | (replace hb5 := undrewW hb5) | skip)); have hz5 : w.heap.size + 1 < w5.heap.size := (by have := hb5.size; (try simp at this); omega); have a05 : w5.cell? ⟨w.heap.size, 0, none⟩ = some (.int .i64 a) := bkeep hb5 (by first | (simp [go_sem]; done) | (simp [go_sem, a04]; done) | exact a04); have a15 : w5.cell? ⟨w.heap.size, 1, none⟩ = some (.int .i64 b) := bkeep hb5 (by first | (simp [go_sem]; done) | (simp [go_sem, a14]; done) | exact a14); have r05 : w5.cell? ⟨w.heap.size + 1, 0, none⟩ = some (.int .i64 0) := bkeep hb5 (by first | (simp [go_sem]; done) | (simp [go_sem, r04]; done) | exact r04); have r15 : w5.cell? ⟨w.heap.size + 1, 1, none⟩ = some (.int .i64 0) := bkeep hb5 (by first | (simp [go_sem]; done) | (simp [go_sem, r14]; done) | exact r14); have z05 : w5.frozen? ⟨w.heap.size + 1, 0, none⟩ = false := bfrz hb5 (by first | omega | (simp; done) | (simp; omega)) (by first | (simp [go_sem]; done) | (simp [go_sem, z04]; done) | exact z04); have z15 : w5.frozen? ⟨w.heap.size + 1, 1, none⟩ = false := bfrz hb5 (by first | omega | (simp; done) | (simp; omega)) (by first | (simp [go_sem]; done) | (simp [go_sem, z14]; done) | exact z14)) | (go_at_call 70; (with_reducible refine (hq _).mono ?_); rintro e w6 ⟨rfl, hb6⟩; (with_reducible (first | (replace hb6 := undrewW hb6) | skip)); have hz6 : w.heap.size + 1 < w6.heap.size := (by have := hb6.size; (try simp at this); omega); have a06 : w6.cell? ⟨w.heap.size, 0, none⟩ = some (.int .i64 a) := bkeep hb6 (by first | (simp [go_sem]; done) | (simp [go_sem, a05]; done) | exact a05); have a16 : w6.cell? ⟨w.heap.size, 1, none⟩ = some (.int .i64 b) := bkeep hb6 (by first | (simp [go_sem]; done) | (simp [go_sem, a15]; done) | exact a15); have r06 : w6.cell? ⟨w.heap.size + 1, 0, none⟩ = some (.int .i64 0) := bkeep hb6 (by first | (simp [go_sem]; done) | (simp [go_sem, r05]; done) | exact r05); have r16 : w6.cell? ⟨w.heap.size + 1, 1, none⟩ = some (.int .i64 0) := bkeep hb6 (by first | (simp [go_sem]; done) | (simp [go_sem, r15]; done) | exact r15); have z06 : w6.frozen? ⟨w.heap.size + 1, 0, none⟩ = false := bfrz hb6 (by first | omega | (simp; done) | (simp; omega)) (by first | (simp [go_sem]; done) | (simp [go_sem, z05]; done) | exact z05); have z16 : w6.frozen? ⟨w.heap.size + 1, 1, none⟩ = false := bfrz hb6 (by first | omega | (simp; done) | (simp; omega)) (by first | (simp [go_sem]; done) | (simp [go_sem, z15]; done) | exact z15)))
      exact bodyPost_ret (v := .tuple #[.agg #[.int .i64 (m.1), .int .i64 (m.2.1)], .int .i64 (m.2.2)]) (by simp [results, Tryz.results81, go_sem, r06, r16]) rfl ⟨rfl, by (repeat (first | with_reducible exact Below.refl _ _ | with_reducible assumption | refine Below.alloc ?_ (by (try simp); try omega) _ | refine Below.setCell ?_ (by (try simp); try omega) _ | refine below_drewN ?_ _ | refine Below.drew ?_ | (with_reducible refine Below.trans ?_ (Below.mono (by assumption) (by (try simp); try omega)))))⟩
  · have h0 : sPowR a b N = (0, 0, 6) := by
      rw [he, if_neg]
      simp only [Bool.and_eq_true]; rintro ⟨⟨⟨h1, h2⟩, h3⟩, h4⟩; exact g ⟨h1, h2, h3, h4⟩
    rw [h0]
    have c1 := fun w => rRaised_any a N false w vk.1 (by omega) n1 n16
    have c2 := fun w => rRaised_any b N false w (by omega) vk.2.2 n1 n16
    have c3 := fun w => rRaised_any a N true w vk.1 (by omega) n1 n16
    have c4 := fun w => rRaised_any b N true w (by omega) vk.2.2 n1 n16
    clear h0 he vk k
    generalize rR false a N = x1 at *
    generalize rR false b N = x2 at *
    generalize rR true a N = x3 at *
    generalize rR true b N = x4 at *
    have hev : (N : Int) % 2 = 0 ∨ (N : Int) % 2 = 1 := by omega
    by_cases g1 : okF x1 = true
    · by_cases g2 : okF x2 = true
      · by_cases g3 : okF x3 = true
        · have g4 : okF x4 = false := by
            cases h : okF x4
            · rfl
            · exact absurd ⟨g1, g2, g3, h⟩ g
          rcases hev with hev | hev
          · skip
            clear g
            go_enter Tryz.func81, Tryz.ntmps81
            go_wp2_with (first | (go_at_call 50; (with_reducible refine (hr _).mono ?_); rintro e w1 ⟨rfl, hb1⟩; (with_reducible (first | (replace hb1 := undrewW hb1) | skip)); have hz1 : w.heap.size + 1 < w1.heap.size := (by have := hb1.size; (try simp at this); omega); have a01 : w1.cell? ⟨w.heap.size, 0, none⟩ = some (.int .i64 a) := bkeep hb1 (by first | (simp [go_sem]; done)); have a11 : w1.cell? ⟨w.heap.size, 1, none⟩ = some (.int .i64 b) := bkeep hb1 (by first | (simp [go_sem]; done)); have r01 : w1.cell? ⟨w.heap.size + 1, 0, none⟩ = some (.int .i64 0) := bkeep hb1 (by first | (simp [go_sem]; done)); have r11 : w1.cell? ⟨w.heap.size + 1, 1, none⟩ = some (.int .i64 0) := bkeep hb1 (by first | (simp [go_sem]; done)); have z01 : w1.frozen? ⟨w.heap.size + 1, 0, none⟩ = false := bfrz hb1 (by first | omega | (simp; done) | (simp; omega)) (by first | (simp [go_sem]; done)); have z11 : w1.frozen? ⟨w.heap.size + 1, 1, none⟩ = false := bfrz hb1 (by first | omega | (simp; done) | (simp; omega)) (by first | (simp [go_sem]; done))) | (go_at_call 95; (with_reducible refine (c1 _).mono ?_); rintro e w2 ⟨⟨o1, q1, rfl, rfl, -, -, -⟩, hb2⟩; (with_reducible (first | (replace hb2 := undrewW hb2) | skip)); have hz2 : w.heap.size + 1 < w2.heap.size := (by have := hb2.size; (try simp at this); omega); have a02 : w2.cell? ⟨w.heap.size, 0, none⟩ = some (.int .i64 a) := bkeep hb2 (by first | (simp [go_sem]; done) | (simp [go_sem, a01]; done) | exact a01); have a12 : w2.cell? ⟨w.heap.size, 1, none⟩ = some (.int .i64 b) := bkeep hb2 (by first | (simp [go_sem]; done) | (simp [go_sem, a11]; done) | exact a11); have r02 : w2.cell? ⟨w.heap.size + 1, 0, none⟩ = some (.int .i64 0) := bkeep hb2 (by first | (simp [go_sem]; done) | (simp [go_sem, r01]; done) | exact r01); have r12 : w2.cell? ⟨w.heap.size + 1, 1, none⟩ = some (.int .i64 0) := bkeep hb2 (by first | (simp [go_sem]; done) | (simp [go_sem, r11]; done) | exact r11); have z02 : w2.frozen? ⟨w.heap.size + 1, 0, none⟩ = false := bfrz hb2 (by first | omega | (simp; done) | (simp; omega)) (by first | (simp [go_sem]; done) | (simp [go_sem, z01]; done) | exact z01); have z12 : w2.frozen? ⟨w.heap.size + 1, 1, none⟩ = false := bfrz hb2 (by first | omega | (simp; done) | (simp; omega)) (by first | (simp [go_sem]; done) | (simp [go_sem, z11]; done) | exact z11)) | (go_at_call 95; (with_reducible refine (c2 _).mono ?_); rintro e w3 ⟨⟨o2, q2, rfl, rfl, -, -, -⟩, hb3⟩; (with_reducible (first | (replace hb3 := undrewW hb3) | skip)); have hz3 : w.heap.size + 1 < w3.heap.size := (by have := hb3.size; (try simp at this); omega); have a03 : w3.cell? ⟨w.heap.size, 0, none⟩ = some (.int .i64 a) := bkeep hb3 (by first | (simp [go_sem]; done) | (simp [go_sem, a02]; done) | exact a02); have a13 : w3.cell? ⟨w.heap.size, 1, none⟩ = some (.int .i64 b) := bkeep hb3 (by first | (simp [go_sem]; done) | (simp [go_sem, a12]; done) | exact a12); have r03 : w3.cell? ⟨w.heap.size + 1, 0, none⟩ = some (.int .i64 0) := bkeep hb3 (by first | (simp [go_sem]; done) | (simp [go_sem, r02]; done) | exact r02); have r13 : w3.cell? ⟨w.heap.size + 1, 1, none⟩ = some (.int .i64 0) := bkeep hb3 (by first | (simp [go_sem]; done) | (simp [go_sem, r12]; done) | exact r12); have z03 : w3.frozen? ⟨w.heap.size + 1, 0, none⟩ = false := bfrz hb3 (by first | omega | (simp; done) | (simp; omega)) (by first | (simp [go_sem]; done) | (simp [go_sem, z02]; done) | exact z02); have z13 : w3.frozen? ⟨w.heap.size + 1, 1, none⟩ = false := bfrz hb3 (by first | omega | (simp; done) | (simp; omega)) (by first | (simp [go_sem]; done) | (simp [go_sem, z12]; done) | exact z12)) | (go_at_call 95; (with_reducible refine (c3 _).mono ?_); rintro e w4 ⟨⟨o3, q3, rfl, rfl, -, -, -⟩, hb4⟩; (with_reducible (first | (replace hb4 := undrewW hb4) | skip)); have hz4 : w.heap.size + 1 < w4.heap.size := (by have := hb4.size; (try simp at this); omega); have a04 : w4.cell? ⟨w.heap.size, 0, none⟩ = some (.int .i64 a) := bkeep hb4 (by first | (simp [go_sem]; done) | (simp [go_sem, a03]; done) | exact a03); have a14 : w4.cell? ⟨w.heap.size, 1, none⟩ = some (.int .i64 b) := bkeep hb4 (by first | (simp [go_sem]; done) | (simp [go_sem, a13]; done) | exact a13); have r04 : w4.cell? ⟨w.heap.size + 1, 0, none⟩ = some (.int .i64 0) := bkeep hb4 (by first | (simp [go_sem]; done) | (simp [go_sem, r03]; done) | exact r03); have r14 : w4.cell? ⟨w.heap.size + 1, 1, none⟩ = some (.int .i64 0) := bkeep hb4 (by first | (simp [go_sem]; done) | (simp [go_sem, r13]; done) | exact r13); have z04 : w4.frozen? ⟨w.heap.size + 1, 0, none⟩ = false := bfrz hb4 (by first | omega | (simp; done) | (simp; omega)) (by first | (simp [go_sem]; done) | (simp [go_sem, z03]; done) | exact z03); have z14 : w4.frozen? ⟨w.heap.size + 1, 1, none⟩ = false := bfrz hb4 (by first | omega | (simp; done) | (simp; omega)) (by first | (simp [go_sem]; done) | (simp [go_sem, z13]; done) | exact z13)) | (go_at_call 95; (with_reducible refine (c4 _).mono ?_); rintro e w5 ⟨⟨o4, q4, rfl, rfl, -, -, -⟩, hb5⟩; (with_reducible (first | (replace hb5 := undrewW hb5) | skip)); have hz5 : w.heap.size + 1 < w5.heap.size := (by have := hb5.size; (try simp at this); omega); have a05 : w5.cell? ⟨w.heap.size, 0, none⟩ = some (.int .i64 a) := bkeep hb5 (by first | (simp [go_sem]; done) | (simp [go_sem, a04]; done) | exact a04); have a15 : w5.cell? ⟨w.heap.size, 1, none⟩ = some (.int .i64 b) := bkeep hb5 (by first | (simp [go_sem]; done) | (simp [go_sem, a14]; done) | exact a14); have r05 : w5.cell? ⟨w.heap.size + 1, 0, none⟩ = some (.int .i64 0) := bkeep hb5 (by first | (simp [go_sem]; done) | (simp [go_sem, r04]; done) | exact r04); have r15 : w5.cell? ⟨w.heap.size + 1, 1, none⟩ = some (.int .i64 0) := bkeep hb5 (by first | (simp [go_sem]; done) | (simp [go_sem, r14]; done) | exact r14); have z05 : w5.frozen? ⟨w.heap.size + 1, 0, none⟩ = false := bfrz hb5 (by first | omega | (simp; done) | (simp; omega)) (by first | (simp [go_sem]; done) | (simp [go_sem, z04]; done) | exact z04); have z15 : w5.frozen? ⟨w.heap.size + 1, 1, none⟩ = false := bfrz hb5 (by first | omega | (simp; done) | (simp; omega)) (by first | (simp [go_sem]; done) | (simp [go_sem, z14]; done) | exact z14)) | (go_at_call 70; (with_reducible refine (result_no _ _ _).mono ?_); rintro e w6 ⟨rfl, hb6⟩; (with_reducible (first | (replace hb6 := undrewW hb6) | skip)); have hz6 : w.heap.size + 1 < w6.heap.size := (by have := hb6.size; (try simp at this); omega); have a06 : w6.cell? ⟨w.heap.size, 0, none⟩ = some (.int .i64 a) := bkeep hb6 (by first | (simp [go_sem]; done) | (simp [go_sem, a05]; done) | exact a05); have a16 : w6.cell? ⟨w.heap.size, 1, none⟩ = some (.int .i64 b) := bkeep hb6 (by first | (simp [go_sem]; done) | (simp [go_sem, a15]; done) | exact a15); have r06 : w6.cell? ⟨w.heap.size + 1, 0, none⟩ = some (.int .i64 0) := bkeep hb6 (by first | (simp [go_sem]; done) | (simp [go_sem, r05]; done) | exact r05); have r16 : w6.cell? ⟨w.heap.size + 1, 1, none⟩ = some (.int .i64 0) := bkeep hb6 (by first | (simp [go_sem]; done) | (simp [go_sem, r15]; done) | exact r15); have z06 : w6.frozen? ⟨w.heap.size + 1, 0, none⟩ = false := bfrz hb6 (by first | omega | (simp; done) | (simp; omega)) (by first | (simp [go_sem]; done) | (simp [go_sem, z05]; done) | exact z05); have z16 : w6.frozen? ⟨w.heap.size + 1, 1, none⟩ = false := bfrz hb6 (by first | omega | (simp; done) | (simp; omega)) (by first | (simp [go_sem]; done) | (simp [go_sem, z15]; done) | exact z15)))
            all_goals exact bodyPost_ret (v := .tuple #[.agg #[.int .i64 (((0, 0, 6) : Int × Int × Int).1), .int .i64 (((0, 0, 6) : Int × Int × Int).2.1)], .int .i64 (((0, 0, 6) : Int × Int × Int).2.2)]) (by simp [results, Tryz.results81, go_sem, r06, r16]) rfl ⟨rfl, by (repeat (first | with_reducible exact Below.refl _ _ | with_reducible assumption | refine Below.alloc ?_ (by (try simp); try omega) _ | refine Below.setCell ?_ (by (try simp); try omega) _ | refine below_drewN ?_ _ | refine Below.drew ?_ | (with_reducible refine Below.trans ?_ (Below.mono (by assumption) (by (try simp); try omega)))))⟩
          · skip
            clear g
            go_enter Tryz.func81, Tryz.ntmps81
            go_wp2_with (first | (go_at_call 50; (with_reducible refine (hr _).mono ?_); rintro e w1 ⟨rfl, hb1⟩; (with_reducible (first | (replace hb1 := undrewW hb1) | skip)); have hz1 : w.heap.size + 1 < w1.heap.size := (by have := hb1.size; (try simp at this); omega); have a01 : w1.cell? ⟨w.heap.size, 0, none⟩ = some (.int .i64 a) := bkeep hb1 (by first | (simp [go_sem]; done)); have a11 : w1.cell? ⟨w.heap.size, 1, none⟩ = some (.int .i64 b) := bkeep hb1 (by first | (simp [go_sem]; done)); have r01 : w1.cell? ⟨w.heap.size + 1, 0, none⟩ = some (.int .i64 0) := bkeep hb1 (by first | (simp [go_sem]; done)); have r11 : w1.cell? ⟨w.heap.size + 1, 1, none⟩ = some (.int .i64 0) := bkeep hb1 (by first | (simp [go_sem]; done)); have z01 : w1.frozen? ⟨w.heap.size + 1, 0, none⟩ = false := bfrz hb1 (by first | omega | (simp; done) | (simp; omega)) (by first | (simp [go_sem]; done)); have z11 : w1.frozen? ⟨w.heap.size + 1, 1, none⟩ = false := bfrz hb1 (by first | omega | (simp; done) | (simp; omega)) (by first | (simp [go_sem]; done))) | (go_at_call 95; (with_reducible refine (c1 _).mono ?_); rintro e w2 ⟨⟨o1, q1, rfl, rfl, -, -, -⟩, hb2⟩; (with_reducible (first | (replace hb2 := undrewW hb2) | skip)); have hz2 : w.heap.size + 1 < w2.heap.size := (by have := hb2.size; (try simp at this); omega); have a02 : w2.cell? ⟨w.heap.size, 0, none⟩ = some (.int .i64 a) := bkeep hb2 (by first | (simp [go_sem]; done) | (simp [go_sem, a01]; done) | exact a01); have a12 : w2.cell? ⟨w.heap.size, 1, none⟩ = some (.int .i64 b) := bkeep hb2 (by first | (simp [go_sem]; done) | (simp [go_sem, a11]; done) | exact a11); have r02 : w2.cell? ⟨w.heap.size + 1, 0, none⟩ = some (.int .i64 0) := bkeep hb2 (by first | (simp [go_sem]; done) | (simp [go_sem, r01]; done) | exact r01); have r12 : w2.cell? ⟨w.heap.size + 1, 1, none⟩ = some (.int .i64 0) := bkeep hb2 (by first | (simp [go_sem]; done) | (simp [go_sem, r11]; done) | exact r11); have z02 : w2.frozen? ⟨w.heap.size + 1, 0, none⟩ = false := bfrz hb2 (by first | omega | (simp; done) | (simp; omega)) (by first | (simp [go_sem]; done) | (simp [go_sem, z01]; done) | exact z01); have z12 : w2.frozen? ⟨w.heap.size + 1, 1, none⟩ = false := bfrz hb2 (by first | omega | (simp; done) | (simp; omega)) (by first | (simp [go_sem]; done) | (simp [go_sem, z11]; done) | exact z11)) | (go_at_call 95; (with_reducible refine (c2 _).mono ?_); rintro e w3 ⟨⟨o2, q2, rfl, rfl, -, -, -⟩, hb3⟩; (with_reducible (first | (replace hb3 := undrewW hb3) | skip)); have hz3 : w.heap.size + 1 < w3.heap.size := (by have := hb3.size; (try simp at this); omega); have a03 : w3.cell? ⟨w.heap.size, 0, none⟩ = some (.int .i64 a) := bkeep hb3 (by first | (simp [go_sem]; done) | (simp [go_sem, a02]; done) | exact a02); have a13 : w3.cell? ⟨w.heap.size, 1, none⟩ = some (.int .i64 b) := bkeep hb3 (by first | (simp [go_sem]; done) | (simp [go_sem, a12]; done) | exact a12); have r03 : w3.cell? ⟨w.heap.size + 1, 0, none⟩ = some (.int .i64 0) := bkeep hb3 (by first | (simp [go_sem]; done) | (simp [go_sem, r02]; done) | exact r02); have r13 : w3.cell? ⟨w.heap.size + 1, 1, none⟩ = some (.int .i64 0) := bkeep hb3 (by first | (simp [go_sem]; done) | (simp [go_sem, r12]; done) | exact r12); have z03 : w3.frozen? ⟨w.heap.size + 1, 0, none⟩ = false := bfrz hb3 (by first | omega | (simp; done) | (simp; omega)) (by first | (simp [go_sem]; done) | (simp [go_sem, z02]; done) | exact z02); have z13 : w3.frozen? ⟨w.heap.size + 1, 1, none⟩ = false := bfrz hb3 (by first | omega | (simp; done) | (simp; omega)) (by first | (simp [go_sem]; done) | (simp [go_sem, z12]; done) | exact z12)) | (go_at_call 95; (with_reducible refine (c3 _).mono ?_); rintro e w4 ⟨⟨o3, q3, rfl, rfl, -, -, -⟩, hb4⟩; (with_reducible (first | (replace hb4 := undrewW hb4) | skip)); have hz4 : w.heap.size + 1 < w4.heap.size := (by have := hb4.size; (try simp at this); omega); have a04 : w4.cell? ⟨w.heap.size, 0, none⟩ = some (.int .i64 a) := bkeep hb4 (by first | (simp [go_sem]; done) | (simp [go_sem, a03]; done) | exact a03); have a14 : w4.cell? ⟨w.heap.size, 1, none⟩ = some (.int .i64 b) := bkeep hb4 (by first | (simp [go_sem]; done) | (simp [go_sem, a13]; done) | exact a13); have r04 : w4.cell? ⟨w.heap.size + 1, 0, none⟩ = some (.int .i64 0) := bkeep hb4 (by first | (simp [go_sem]; done) | (simp [go_sem, r03]; done) | exact r03); have r14 : w4.cell? ⟨w.heap.size + 1, 1, none⟩ = some (.int .i64 0) := bkeep hb4 (by first | (simp [go_sem]; done) | (simp [go_sem, r13]; done) | exact r13); have z04 : w4.frozen? ⟨w.heap.size + 1, 0, none⟩ = false := bfrz hb4 (by first | omega | (simp; done) | (simp; omega)) (by first | (simp [go_sem]; done) | (simp [go_sem, z03]; done) | exact z03); have z14 : w4.frozen? ⟨w.heap.size + 1, 1, none⟩ = false := bfrz hb4 (by first | omega | (simp; done) | (simp; omega)) (by first | (simp [go_sem]; done) | (simp [go_sem, z13]; done) | exact z13)) | (go_at_call 95; (with_reducible refine (c4 _).mono ?_); rintro e w5 ⟨⟨o4, q4, rfl, rfl, -, -, -⟩, hb5⟩; (with_reducible (first | (replace hb5 := undrewW hb5) | skip)); have hz5 : w.heap.size + 1 < w5.heap.size := (by have := hb5.size; (try simp at this); omega); have a05 : w5.cell? ⟨w.heap.size, 0, none⟩ = some (.int .i64 a) := bkeep hb5 (by first | (simp [go_sem]; done) | (simp [go_sem, a04]; done) | exact a04); have a15 : w5.cell? ⟨w.heap.size, 1, none⟩ = some (.int .i64 b) := bkeep hb5 (by first | (simp [go_sem]; done) | (simp [go_sem, a14]; done) | exact a14); have r05 : w5.cell? ⟨w.heap.size + 1, 0, none⟩ = some (.int .i64 0) := bkeep hb5 (by first | (simp [go_sem]; done) | (simp [go_sem, r04]; done) | exact r04); have r15 : w5.cell? ⟨w.heap.size + 1, 1, none⟩ = some (.int .i64 0) := bkeep hb5 (by first | (simp [go_sem]; done) | (simp [go_sem, r14]; done) | exact r14); have z05 : w5.frozen? ⟨w.heap.size + 1, 0, none⟩ = false := bfrz hb5 (by first | omega | (simp; done) | (simp; omega)) (by first | (simp [go_sem]; done) | (simp [go_sem, z04]; done) | exact z04); have z15 : w5.frozen? ⟨w.heap.size + 1, 1, none⟩ = false := bfrz hb5 (by first | omega | (simp; done) | (simp; omega)) (by first | (simp [go_sem]; done) | (simp [go_sem, z14]; done) | exact z14)) | (go_at_call 70; (with_reducible refine (result_no _ _ _).mono ?_); rintro e w6 ⟨rfl, hb6⟩; (with_reducible (first | (replace hb6 := undrewW hb6) | skip)); have hz6 : w.heap.size + 1 < w6.heap.size := (by have := hb6.size; (try simp at this); omega); have a06 : w6.cell? ⟨w.heap.size, 0, none⟩ = some (.int .i64 a) := bkeep hb6 (by first | (simp [go_sem]; done) | (simp [go_sem, a05]; done) | exact a05); have a16 : w6.cell? ⟨w.heap.size, 1, none⟩ = some (.int .i64 b) := bkeep hb6 (by first | (simp [go_sem]; done) | (simp [go_sem, a15]; done) | exact a15); have r06 : w6.cell? ⟨w.heap.size + 1, 0, none⟩ = some (.int .i64 0) := bkeep hb6 (by first | (simp [go_sem]; done) | (simp [go_sem, r05]; done) | exact r05); have r16 : w6.cell? ⟨w.heap.size + 1, 1, none⟩ = some (.int .i64 0) := bkeep hb6 (by first | (simp [go_sem]; done) | (simp [go_sem, r15]; done) | exact r15); have z06 : w6.frozen? ⟨w.heap.size + 1, 0, none⟩ = false := bfrz hb6 (by first | omega | (simp; done) | (simp; omega)) (by first | (simp [go_sem]; done) | (simp [go_sem, z05]; done) | exact z05); have z16 : w6.frozen? ⟨w.heap.size + 1, 1, none⟩ = false := bfrz hb6 (by first | omega | (simp; done) | (simp; omega)) (by first | (simp [go_sem]; done) | (simp [go_sem, z15]; done) | exact z15)))
            all_goals exact bodyPost_ret (v := .tuple #[.agg #[.int .i64 (((0, 0, 6) : Int × Int × Int).1), .int .i64 (((0, 0, 6) : Int × Int × Int).2.1)], .int .i64 (((0, 0, 6) : Int × Int × Int).2.2)]) (by simp [results, Tryz.results81, go_sem, r06, r16]) rfl ⟨rfl, by (repeat (first | with_reducible exact Below.refl _ _ | with_reducible assumption | refine Below.alloc ?_ (by (try simp); try omega) _ | refine Below.setCell ?_ (by (try simp); try omega) _ | refine below_drewN ?_ _ | refine Below.drew ?_ | (with_reducible refine Below.trans ?_ (Below.mono (by assumption) (by (try simp); try omega)))))⟩
        · replace g3 : okF x3 = false := by simpa using g3
          rcases hev with hev | hev
          · skip
            clear g
            go_enter Tryz.func81, Tryz.ntmps81
            go_wp2_with (first | (go_at_call 50; (with_reducible refine (hr _).mono ?_); rintro e w1 ⟨rfl, hb1⟩; (with_reducible (first | (replace hb1 := undrewW hb1) | skip)); have hz1 : w.heap.size + 1 < w1.heap.size := (by have := hb1.size; (try simp at this); omega); have a01 : w1.cell? ⟨w.heap.size, 0, none⟩ = some (.int .i64 a) := bkeep hb1 (by first | (simp [go_sem]; done)); have a11 : w1.cell? ⟨w.heap.size, 1, none⟩ = some (.int .i64 b) := bkeep hb1 (by first | (simp [go_sem]; done)); have r01 : w1.cell? ⟨w.heap.size + 1, 0, none⟩ = some (.int .i64 0) := bkeep hb1 (by first | (simp [go_sem]; done)); have r11 : w1.cell? ⟨w.heap.size + 1, 1, none⟩ = some (.int .i64 0) := bkeep hb1 (by first | (simp [go_sem]; done)); have z01 : w1.frozen? ⟨w.heap.size + 1, 0, none⟩ = false := bfrz hb1 (by first | omega | (simp; done) | (simp; omega)) (by first | (simp [go_sem]; done)); have z11 : w1.frozen? ⟨w.heap.size + 1, 1, none⟩ = false := bfrz hb1 (by first | omega | (simp; done) | (simp; omega)) (by first | (simp [go_sem]; done))) | (go_at_call 95; (with_reducible refine (c1 _).mono ?_); rintro e w2 ⟨⟨o1, q1, rfl, rfl, -, -, -⟩, hb2⟩; (with_reducible (first | (replace hb2 := undrewW hb2) | skip)); have hz2 : w.heap.size + 1 < w2.heap.size := (by have := hb2.size; (try simp at this); omega); have a02 : w2.cell? ⟨w.heap.size, 0, none⟩ = some (.int .i64 a) := bkeep hb2 (by first | (simp [go_sem]; done) | (simp [go_sem, a01]; done) | exact a01); have a12 : w2.cell? ⟨w.heap.size, 1, none⟩ = some (.int .i64 b) := bkeep hb2 (by first | (simp [go_sem]; done) | (simp [go_sem, a11]; done) | exact a11); have r02 : w2.cell? ⟨w.heap.size + 1, 0, none⟩ = some (.int .i64 0) := bkeep hb2 (by first | (simp [go_sem]; done) | (simp [go_sem, r01]; done) | exact r01); have r12 : w2.cell? ⟨w.heap.size + 1, 1, none⟩ = some (.int .i64 0) := bkeep hb2 (by first | (simp [go_sem]; done) | (simp [go_sem, r11]; done) | exact r11); have z02 : w2.frozen? ⟨w.heap.size + 1, 0, none⟩ = false := bfrz hb2 (by first | omega | (simp; done) | (simp; omega)) (by first | (simp [go_sem]; done) | (simp [go_sem, z01]; done) | exact z01); have z12 : w2.frozen? ⟨w.heap.size + 1, 1, none⟩ = false := bfrz hb2 (by first | omega | (simp; done) | (simp; omega)) (by first | (simp [go_sem]; done) | (simp [go_sem, z11]; done) | exact z11)) | (go_at_call 95; (with_reducible refine (c2 _).mono ?_); rintro e w3 ⟨⟨o2, q2, rfl, rfl, -, -, -⟩, hb3⟩; (with_reducible (first | (replace hb3 := undrewW hb3) | skip)); have hz3 : w.heap.size + 1 < w3.heap.size := (by have := hb3.size; (try simp at this); omega); have a03 : w3.cell? ⟨w.heap.size, 0, none⟩ = some (.int .i64 a) := bkeep hb3 (by first | (simp [go_sem]; done) | (simp [go_sem, a02]; done) | exact a02); have a13 : w3.cell? ⟨w.heap.size, 1, none⟩ = some (.int .i64 b) := bkeep hb3 (by first | (simp [go_sem]; done) | (simp [go_sem, a12]; done) | exact a12); have r03 : w3.cell? ⟨w.heap.size + 1, 0, none⟩ = some (.int .i64 0) := bkeep hb3 (by first | (simp [go_sem]; done) | (simp [go_sem, r02]; done) | exact r02); have r13 : w3.cell? ⟨w.heap.size + 1, 1, none⟩ = some (.int .i64 0) := bkeep hb3 (by first | (simp [go_sem]; done) | (simp [go_sem, r12]; done) | exact r12); have z03 : w3.frozen? ⟨w.heap.size + 1, 0, none⟩ = false := bfrz hb3 (by first | omega | (simp; done) | (simp; omega)) (by first | (simp [go_sem]; done) | (simp [go_sem, z02]; done) | exact z02); have z13 : w3.frozen? ⟨w.heap.size + 1, 1, none⟩ = false := bfrz hb3 (by first | omega | (simp; done) | (simp; omega)) (by first | (simp [go_sem]; done) | (simp [go_sem, z12]; done) | exact z12)) | (go_at_call 95; (with_reducible refine (c3 _).mono ?_); rintro e w4 ⟨⟨o3, q3, rfl, rfl, -, -, -⟩, hb4⟩; (with_reducible (first | (replace hb4 := undrewW hb4) | skip)); have hz4 : w.heap.size + 1 < w4.heap.size := (by have := hb4.size; (try simp at this); omega); have a04 : w4.cell? ⟨w.heap.size, 0, none⟩ = some (.int .i64 a) := bkeep hb4 (by first | (simp [go_sem]; done) | (simp [go_sem, a03]; done) | exact a03); have a14 : w4.cell? ⟨w.heap.size, 1, none⟩ = some (.int .i64 b) := bkeep hb4 (by first | (simp [go_sem]; done) | (simp [go_sem, a13]; done) | exact a13); have r04 : w4.cell? ⟨w.heap.size + 1, 0, none⟩ = some (.int .i64 0) := bkeep hb4 (by first | (simp [go_sem]; done) | (simp [go_sem, r03]; done) | exact r03); have r14 : w4.cell? ⟨w.heap.size + 1, 1, none⟩ = some (.int .i64 0) := bkeep hb4 (by first | (simp [go_sem]; done) | (simp [go_sem, r13]; done) | exact r13); have z04 : w4.frozen? ⟨w.heap.size + 1, 0, none⟩ = false := bfrz hb4 (by first | omega | (simp; done) | (simp; omega)) (by first | (simp [go_sem]; done) | (simp [go_sem, z03]; done) | exact z03); have z14 : w4.frozen? ⟨w.heap.size + 1, 1, none⟩ = false := bfrz hb4 (by first | omega | (simp; done) | (simp; omega)) (by first | (simp [go_sem]; done) | (simp [go_sem, z13]; done) | exact z13)) | (go_at_call 95; (with_reducible refine (c4 _).mono ?_); rintro e w5 ⟨⟨o4, q4, rfl, rfl, -, -, -⟩, hb5⟩; (with_reducible (first | (replace hb5 := undrewW hb5) | skip)); have hz5 : w.heap.size + 1 < w5.heap.size := (by have := hb5.size; (try simp at this); omega); have a05 : w5.cell? ⟨w.heap.size, 0, none⟩ = some (.int .i64 a) := bkeep hb5 (by first | (simp [go_sem]; done) | (simp [go_sem, a04]; done) | exact a04); have a15 : w5.cell? ⟨w.heap.size, 1, none⟩ = some (.int .i64 b) := bkeep hb5 (by first | (simp [go_sem]; done) | (simp [go_sem, a14]; done) | exact a14); have r05 : w5.cell? ⟨w.heap.size + 1, 0, none⟩ = some (.int .i64 0) := bkeep hb5 (by first | (simp [go_sem]; done) | (simp [go_sem, r04]; done) | exact r04); have r15 : w5.cell? ⟨w.heap.size + 1, 1, none⟩ = some (.int .i64 0) := bkeep hb5 (by first | (simp [go_sem]; done) | (simp [go_sem, r14]; done) | exact r14); have z05 : w5.frozen? ⟨w.heap.size + 1, 0, none⟩ = false := bfrz hb5 (by first | omega | (simp; done) | (simp; omega)) (by first | (simp [go_sem]; done) | (simp [go_sem, z04]; done) | exact z04); have z15 : w5.frozen? ⟨w.heap.size + 1, 1, none⟩ = false := bfrz hb5 (by first | omega | (simp; done) | (simp; omega)) (by first | (simp [go_sem]; done) | (simp [go_sem, z14]; done) | exact z14)) | (go_at_call 70; (with_reducible refine (result_no _ _ _).mono ?_); rintro e w6 ⟨rfl, hb6⟩; (with_reducible (first | (replace hb6 := undrewW hb6) | skip)); have hz6 : w.heap.size + 1 < w6.heap.size := (by have := hb6.size; (try simp at this); omega); have a06 : w6.cell? ⟨w.heap.size, 0, none⟩ = some (.int .i64 a) := bkeep hb6 (by first | (simp [go_sem]; done) | (simp [go_sem, a05]; done) | exact a05); have a16 : w6.cell? ⟨w.heap.size, 1, none⟩ = some (.int .i64 b) := bkeep hb6 (by first | (simp [go_sem]; done) | (simp [go_sem, a15]; done) | exact a15); have r06 : w6.cell? ⟨w.heap.size + 1, 0, none⟩ = some (.int .i64 0) := bkeep hb6 (by first | (simp [go_sem]; done) | (simp [go_sem, r05]; done) | exact r05); have r16 : w6.cell? ⟨w.heap.size + 1, 1, none⟩ = some (.int .i64 0) := bkeep hb6 (by first | (simp [go_sem]; done) | (simp [go_sem, r15]; done) | exact r15); have z06 : w6.frozen? ⟨w.heap.size + 1, 0, none⟩ = false := bfrz hb6 (by first | omega | (simp; done) | (simp; omega)) (by first | (simp [go_sem]; done) | (simp [go_sem, z05]; done) | exact z05); have z16 : w6.frozen? ⟨w.heap.size + 1, 1, none⟩ = false := bfrz hb6 (by first | omega | (simp; done) | (simp; omega)) (by first | (simp [go_sem]; done) | (simp [go_sem, z15]; done) | exact z15)))
            all_goals exact bodyPost_ret (v := .tuple #[.agg #[.int .i64 (((0, 0, 6) : Int × Int × Int).1), .int .i64 (((0, 0, 6) : Int × Int × Int).2.1)], .int .i64 (((0, 0, 6) : Int × Int × Int).2.2)]) (by simp [results, Tryz.results81, go_sem, r06, r16]) rfl ⟨rfl, by (repeat (first | with_reducible exact Below.refl _ _ | with_reducible assumption | refine Below.alloc ?_ (by (try simp); try omega) _ | refine Below.setCell ?_ (by (try simp); try omega) _ | refine below_drewN ?_ _ | refine Below.drew ?_ | (with_reducible refine Below.trans ?_ (Below.mono (by assumption) (by (try simp); try omega)))))⟩
          · skip
            clear g
            go_enter Tryz.func81, Tryz.ntmps81
            go_wp2_with (first | (go_at_call 50; (with_reducible refine (hr _).mono ?_); rintro e w1 ⟨rfl, hb1⟩; (with_reducible (first | (replace hb1 := undrewW hb1) | skip)); have hz1 : w.heap.size + 1 < w1.heap.size := (by have := hb1.size; (try simp at this); omega); have a01 : w1.cell? ⟨w.heap.size, 0, none⟩ = some (.int .i64 a) := bkeep hb1 (by first | (simp [go_sem]; done)); have a11 : w1.cell? ⟨w.heap.size, 1, none⟩ = some (.int .i64 b) := bkeep hb1 (by first | (simp [go_sem]; done)); have r01 : w1.cell? ⟨w.heap.size + 1, 0, none⟩ = some (.int .i64 0) := bkeep hb1 (by first | (simp [go_sem]; done)); have r11 : w1.cell? ⟨w.heap.size + 1, 1, none⟩ = some (.int .i64 0) := bkeep hb1 (by first | (simp [go_sem]; done)); have z01 : w1.frozen? ⟨w.heap.size + 1, 0, none⟩ = false := bfrz hb1 (by first | omega | (simp; done) | (simp; omega)) (by first | (simp [go_sem]; done)); have z11 : w1.frozen? ⟨w.heap.size + 1, 1, none⟩ = false := bfrz hb1 (by first | omega | (simp; done) | (simp; omega)) (by first | (simp [go_sem]; done))) | (go_at_call 95; (with_reducible refine (c1 _).mono ?_); rintro e w2 ⟨⟨o1, q1, rfl, rfl, -, -, -⟩, hb2⟩; (with_reducible (first | (replace hb2 := undrewW hb2) | skip)); have hz2 : w.heap.size + 1 < w2.heap.size := (by have := hb2.size; (try simp at this); omega); have a02 : w2.cell? ⟨w.heap.size, 0, none⟩ = some (.int .i64 a) := bkeep hb2 (by first | (simp [go_sem]; done) | (simp [go_sem, a01]; done) | exact a01); have a12 : w2.cell? ⟨w.heap.size, 1, none⟩ = some (.int .i64 b) := bkeep hb2 (by first | (simp [go_sem]; done) | (simp [go_sem, a11]; done) | exact a11); have r02 : w2.cell? ⟨w.heap.size + 1, 0, none⟩ = some (.int .i64 0) := bkeep hb2 (by first | (simp [go_sem]; done) | (simp [go_sem, r01]; done) | exact r01); have r12 : w2.cell? ⟨w.heap.size + 1, 1, none⟩ = some (.int .i64 0) := bkeep hb2 (by first | (simp [go_sem]; done) | (simp [go_sem, r11]; done) | exact r11); have z02 : w2.frozen? ⟨w.heap.size + 1, 0, none⟩ = false := bfrz hb2 (by first | omega | (simp; done) | (simp; omega)) (by first | (simp [go_sem]; done) | (simp [go_sem, z01]; done) | exact z01); have z12 : w2.frozen? ⟨w.heap.size + 1, 1, none⟩ = false := bfrz hb2 (by first | omega | (simp; done) | (simp; omega)) (by first | (simp [go_sem]; done) | (simp [go_sem, z11]; done) | exact z11)) | (go_at_call 95; (with_reducible refine (c2 _).mono ?_); rintro e w3 ⟨⟨o2, q2, rfl, rfl, -, -, -⟩, hb3⟩; (with_reducible (first | (replace hb3 := undrewW hb3) | skip)); have hz3 : w.heap.size + 1 < w3.heap.size := (by have := hb3.size; (try simp at this); omega); have a03 : w3.cell? ⟨w.heap.size, 0, none⟩ = some (.int .i64 a) := bkeep hb3 (by first | (simp [go_sem]; done) | (simp [go_sem, a02]; done) | exact a02); have a13 : w3.cell? ⟨w.heap.size, 1, none⟩ = some (.int .i64 b) := bkeep hb3 (by first | (simp [go_sem]; done) | (simp [go_sem, a12]; done) | exact a12); have r03 : w3.cell? ⟨w.heap.size + 1, 0, none⟩ = some (.int .i64 0) := bkeep hb3 (by first | (simp [go_sem]; done) | (simp [go_sem, r02]; done) | exact r02); have r13 : w3.cell? ⟨w.heap.size + 1, 1, none⟩ = some (.int .i64 0) := bkeep hb3 (by first | (simp [go_sem]; done) | (simp [go_sem, r12]; done) | exact r12); have z03 : w3.frozen? ⟨w.heap.size + 1, 0, none⟩ = false := bfrz hb3 (by first | omega | (simp; done) | (simp; omega)) (by first | (simp [go_sem]; done) | (simp [go_sem, z02]; done) | exact z02); have z13 : w3.frozen? ⟨w.heap.size + 1, 1, none⟩ = false := bfrz hb3 (by first | omega | (simp; done) | (simp; omega)) (by first | (simp [go_sem]; done) | (simp [go_sem, z12]; done) | exact z12)) | (go_at_call 95; (with_reducible refine (c3 _).mono ?_); rintro e w4 ⟨⟨o3, q3, rfl, rfl, -, -, -⟩, hb4⟩; (with_reducible (first | (replace hb4 := undrewW hb4) | skip)); have hz4 : w.heap.size + 1 < w4.heap.size := (by have := hb4.size; (try simp at this); omega); have a04 : w4.cell? ⟨w.heap.size, 0, none⟩ = some (.int .i64 a) := bkeep hb4 (by first | (simp [go_sem]; done) | (simp [go_sem, a03]; done) | exact a03); have a14 : w4.cell? ⟨w.heap.size, 1, none⟩ = some (.int .i64 b) := bkeep hb4 (by first | (simp [go_sem]; done) | (simp [go_sem, a13]; done) | exact a13); have r04 : w4.cell? ⟨w.heap.size + 1, 0, none⟩ = some (.int .i64 0) := bkeep hb4 (by first | (simp [go_sem]; done) | (simp [go_sem, r03]; done) | exact r03); have r14 : w4.cell? ⟨w.heap.size + 1, 1, none⟩ = some (.int .i64 0) := bkeep hb4 (by first | (simp [go_sem]; done) | (simp [go_sem, r13]; done) | exact r13); have z04 : w4.frozen? ⟨w.heap.size + 1, 0, none⟩ = false := bfrz hb4 (by first | omega | (simp; done) | (simp; omega)) (by first | (simp [go_sem]; done) | (simp [go_sem, z03]; done) | exact z03); have z14 : w4.frozen? ⟨w.heap.size + 1, 1, none⟩ = false := bfrz hb4 (by first | omega | (simp; done) | (simp; omega)) (by first | (simp [go_sem]; done) | (simp [go_sem, z13]; done) | exact z13)) | (go_at_call 95; (with_reducible refine (c4 _).mono ?_); rintro e w5 ⟨⟨o4, q4, rfl, rfl, -, -, -⟩, hb5⟩; (with_reducible (first | (replace hb5 := undrewW hb5) | skip)); have hz5 : w.heap.size + 1 < w5.heap.size := (by have := hb5.size; (try simp at this); omega); have a05 : w5.cell? ⟨w.heap.size, 0, none⟩ = some (.int .i64 a) := bkeep hb5 (by first | (simp [go_sem]; done) | (simp [go_sem, a04]; done) | exact a04); have a15 : w5.cell? ⟨w.heap.size, 1, none⟩ = some (.int .i64 b) := bkeep hb5 (by first | (simp [go_sem]; done) | (simp [go_sem, a14]; done) | exact a14); have r05 : w5.cell? ⟨w.heap.size + 1, 0, none⟩ = some (.int .i64 0) := bkeep hb5 (by first | (simp [go_sem]; done) | (simp [go_sem, r04]; done) | exact r04); have r15 : w5.cell? ⟨w.heap.size + 1, 1, none⟩ = some (.int .i64 0) := bkeep hb5 (by first | (simp [go_sem]; done) | (simp [go_sem, r14]; done) | exact r14); have z05 : w5.frozen? ⟨w.heap.size + 1, 0, none⟩ = false := bfrz hb5 (by first | omega | (simp; done) | (simp; omega)) (by first | (simp [go_sem]; done) | (simp [go_sem, z04]; done) | exact z04); have z15 : w5.frozen? ⟨w.heap.size + 1, 1, none⟩ = false := bfrz hb5 (by first | omega | (simp; done) | (simp; omega)) (by first | (simp [go_sem]; done) | (simp [go_sem, z14]; done) | exact z14)) | (go_at_call 70; (with_reducible refine (result_no _ _ _).mono ?_); rintro e w6 ⟨rfl, hb6⟩; (with_reducible (first | (replace hb6 := undrewW hb6) | skip)); have hz6 : w.heap.size + 1 < w6.heap.size := (by have := hb6.size; (try simp at this); omega); have a06 : w6.cell? ⟨w.heap.size, 0, none⟩ = some (.int .i64 a) := bkeep hb6 (by first | (simp [go_sem]; done) | (simp [go_sem, a05]; done) | exact a05); have a16 : w6.cell? ⟨w.heap.size, 1, none⟩ = some (.int .i64 b) := bkeep hb6 (by first | (simp [go_sem]; done) | (simp [go_sem, a15]; done) | exact a15); have r06 : w6.cell? ⟨w.heap.size + 1, 0, none⟩ = some (.int .i64 0) := bkeep hb6 (by first | (simp [go_sem]; done) | (simp [go_sem, r05]; done) | exact r05); have r16 : w6.cell? ⟨w.heap.size + 1, 1, none⟩ = some (.int .i64 0) := bkeep hb6 (by first | (simp [go_sem]; done) | (simp [go_sem, r15]; done) | exact r15); have z06 : w6.frozen? ⟨w.heap.size + 1, 0, none⟩ = false := bfrz hb6 (by first | omega | (simp; done) | (simp; omega)) (by first | (simp [go_sem]; done) | (simp [go_sem, z05]; done) | exact z05); have z16 : w6.frozen? ⟨w.heap.size + 1, 1, none⟩ = false := bfrz hb6 (by first | omega | (simp; done) | (simp; omega)) (by first | (simp [go_sem]; done) | (simp [go_sem, z15]; done) | exact z15)))
            all_goals exact bodyPost_ret (v := .tuple #[.agg #[.int .i64 (((0, 0, 6) : Int × Int × Int).1), .int .i64 (((0, 0, 6) : Int × Int × Int).2.1)], .int .i64 (((0, 0, 6) : Int × Int × Int).2.2)]) (by simp [results, Tryz.results81, go_sem, r06, r16]) rfl ⟨rfl, by (repeat (first | with_reducible exact Below.refl _ _ | with_reducible assumption | refine Below.alloc ?_ (by (try simp); try omega) _ | refine Below.setCell ?_ (by (try simp); try omega) _ | refine below_drewN ?_ _ | refine Below.drew ?_ | (with_reducible refine Below.trans ?_ (Below.mono (by assumption) (by (try simp); try omega)))))⟩
      · replace g2 : okF x2 = false := by simpa using g2
        rcases hev with hev | hev
        · skip
          clear g
          go_enter Tryz.func81, Tryz.ntmps81
          go_wp2_with (first | (go_at_call 50; (with_reducible refine (hr _).mono ?_); rintro e w1 ⟨rfl, hb1⟩; (with_reducible (first | (replace hb1 := undrewW hb1) | skip)); have hz1 : w.heap.size + 1 < w1.heap.size := (by have := hb1.size; (try simp at this); omega); have a01 : w1.cell? ⟨w.heap.size, 0, none⟩ = some (.int .i64 a) := bkeep hb1 (by first | (simp [go_sem]; done)); have a11 : w1.cell? ⟨w.heap.size, 1, none⟩ = some (.int .i64 b) := bkeep hb1 (by first | (simp [go_sem]; done)); have r01 : w1.cell? ⟨w.heap.size + 1, 0, none⟩ = some (.int .i64 0) := bkeep hb1 (by first | (simp [go_sem]; done)); have r11 : w1.cell? ⟨w.heap.size + 1, 1, none⟩ = some (.int .i64 0) := bkeep hb1 (by first | (simp [go_sem]; done)); have z01 : w1.frozen? ⟨w.heap.size + 1, 0, none⟩ = false := bfrz hb1 (by first | omega | (simp; done) | (simp; omega)) (by first | (simp [go_sem]; done)); have z11 : w1.frozen? ⟨w.heap.size + 1, 1, none⟩ = false := bfrz hb1 (by first | omega | (simp; done) | (simp; omega)) (by first | (simp [go_sem]; done))) | (go_at_call 95; (with_reducible refine (c1 _).mono ?_); rintro e w2 ⟨⟨o1, q1, rfl, rfl, -, -, -⟩, hb2⟩; (with_reducible (first | (replace hb2 := undrewW hb2) | skip)); have hz2 : w.heap.size + 1 < w2.heap.size := (by have := hb2.size; (try simp at this); omega); have a02 : w2.cell? ⟨w.heap.size, 0, none⟩ = some (.int .i64 a) := bkeep hb2 (by first | (simp [go_sem]; done) | (simp [go_sem, a01]; done) | exact a01); have a12 : w2.cell? ⟨w.heap.size, 1, none⟩ = some (.int .i64 b) := bkeep hb2 (by first | (simp [go_sem]; done) | (simp [go_sem, a11]; done) | exact a11); have r02 : w2.cell? ⟨w.heap.size + 1, 0, none⟩ = some (.int .i64 0) := bkeep hb2 (by first | (simp [go_sem]; done) | (simp [go_sem, r01]; done) | exact r01); have r12 : w2.cell? ⟨w.heap.size + 1, 1, none⟩ = some (.int .i64 0) := bkeep hb2 (by first | (simp [go_sem]; done) | (simp [go_sem, r11]; done) | exact r11); have z02 : w2.frozen? ⟨w.heap.size + 1, 0, none⟩ = false := bfrz hb2 (by first | omega | (simp; done) | (simp; omega)) (by first | (simp [go_sem]; done) | (simp [go_sem, z01]; done) | exact z01); have z12 : w2.frozen? ⟨w.heap.size + 1, 1, none⟩ = false := bfrz hb2 (by first | omega | (simp; done) | (simp; omega)) (by first | (simp [go_sem]; done) | (simp [go_sem, z11]; done) | exact z11)) | (go_at_call 95; (with_reducible refine (c2 _).mono ?_); rintro e w3 ⟨⟨o2, q2, rfl, rfl, -, -, -⟩, hb3⟩; (with_reducible (first | (replace hb3 := undrewW hb3) | skip)); have hz3 : w.heap.size + 1 < w3.heap.size := (by have := hb3.size; (try simp at this); omega); have a03 : w3.cell? ⟨w.heap.size, 0, none⟩ = some (.int .i64 a) := bkeep hb3 (by first | (simp [go_sem]; done) | (simp [go_sem, a02]; done) | exact a02); have a13 : w3.cell? ⟨w.heap.size, 1, none⟩ = some (.int .i64 b) := bkeep hb3 (by first | (simp [go_sem]; done) | (simp [go_sem, a12]; done) | exact a12); have r03 : w3.cell? ⟨w.heap.size + 1, 0, none⟩ = some (.int .i64 0) := bkeep hb3 (by first | (simp [go_sem]; done) | (simp [go_sem, r02]; done) | exact r02); have r13 : w3.cell? ⟨w.heap.size + 1, 1, none⟩ = some (.int .i64 0) := bkeep hb3 (by first | (simp [go_sem]; done) | (simp [go_sem, r12]; done) | exact r12); have z03 : w3.frozen? ⟨w.heap.size + 1, 0, none⟩ = false := bfrz hb3 (by first | omega | (simp; done) | (simp; omega)) (by first | (simp [go_sem]; done) | (simp [go_sem, z02]; done) | exact z02); have z13 : w3.frozen? ⟨w.heap.size + 1, 1, none⟩ = false := bfrz hb3 (by first | omega | (simp; done) | (simp; omega)) (by first | (simp [go_sem]; done) | (simp [go_sem, z12]; done) | exact z12)) | (go_at_call 95; (with_reducible refine (c3 _).mono ?_); rintro e w4 ⟨⟨o3, q3, rfl, rfl, -, -, -⟩, hb4⟩; (with_reducible (first | (replace hb4 := undrewW hb4) | skip)); have hz4 : w.heap.size + 1 < w4.heap.size := (by have := hb4.size; (try simp at this); omega); have a04 : w4.cell? ⟨w.heap.size, 0, none⟩ = some (.int .i64 a) := bkeep hb4 (by first | (simp [go_sem]; done) | (simp [go_sem, a03]; done) | exact a03); have a14 : w4.cell? ⟨w.heap.size, 1, none⟩ = some (.int .i64 b) := bkeep hb4 (by first | (simp [go_sem]; done) | (simp [go_sem, a13]; done) | exact a13); have r04 : w4.cell? ⟨w.heap.size + 1, 0, none⟩ = some (.int .i64 0) := bkeep hb4 (by first | (simp [go_sem]; done) | (simp [go_sem, r03]; done) | exact r03); have r14 : w4.cell? ⟨w.heap.size + 1, 1, none⟩ = some (.int .i64 0) := bkeep hb4 (by first | (simp [go_sem]; done) | (simp [go_sem, r13]; done) | exact r13); have z04 : w4.frozen? ⟨w.heap.size + 1, 0, none⟩ = false := bfrz hb4 (by first | omega | (simp; done) | (simp; omega)) (by first | (simp [go_sem]; done) | (simp [go_sem, z03]; done) | exact z03); have z14 : w4.frozen? ⟨w.heap.size + 1, 1, none⟩ = false := bfrz hb4 (by first | omega | (simp; done) | (simp; omega)) (by first | (simp [go_sem]; done) | (simp [go_sem, z13]; done) | exact z13)) | (go_at_call 95; (with_reducible refine (c4 _).mono ?_); rintro e w5 ⟨⟨o4, q4, rfl, rfl, -, -, -⟩, hb5⟩; (with_reducible (first | (replace hb5 := undrewW hb5) | skip)); have hz5 : w.heap.size + 1 < w5.heap.size := (by have := hb5.size; (try simp at this); omega); have a05 : w5.cell? ⟨w.heap.size, 0, none⟩ = some (.int .i64 a) := bkeep hb5 (by first | (simp [go_sem]; done) | (simp [go_sem, a04]; done) | exact a04); have a15 : w5.cell? ⟨w.heap.size, 1, none⟩ = some (.int .i64 b) := bkeep hb5 (by first | (simp [go_sem]; done) | (simp [go_sem, a14]; done) | exact a14); have r05 : w5.cell? ⟨w.heap.size + 1, 0, none⟩ = some (.int .i64 0) := bkeep hb5 (by first | (simp [go_sem]; done) | (simp [go_sem, r04]; done) | exact r04); have r15 : w5.cell? ⟨w.heap.size + 1, 1, none⟩ = some (.int .i64 0) := bkeep hb5 (by first | (simp [go_sem]; done) | (simp [go_sem, r14]; done) | exact r14); have z05 : w5.frozen? ⟨w.heap.size + 1, 0, none⟩ = false := bfrz hb5 (by first | omega | (simp; done) | (simp; omega)) (by first | (simp [go_sem]; done) | (simp [go_sem, z04]; done) | exact z04); have z15 : w5.frozen? ⟨w.heap.size + 1, 1, none⟩ = false := bfrz hb5 (by first | omega | (simp; done) | (simp; omega)) (by first | (simp [go_sem]; done) | (simp [go_sem, z14]; done) | exact z14)) | (go_at_call 70; (with_reducible refine (result_no _ _ _).mono ?_); rintro e w6 ⟨rfl, hb6⟩; (with_reducible (first | (replace hb6 := undrewW hb6) | skip)); have hz6 : w.heap.size + 1 < w6.heap.size := (by have := hb6.size; (try simp at this); omega); have a06 : w6.cell? ⟨w.heap.size, 0, none⟩ = some (.int .i64 a) := bkeep hb6 (by first | (simp [go_sem]; done) | (simp [go_sem, a05]; done) | exact a05); have a16 : w6.cell? ⟨w.heap.size, 1, none⟩ = some (.int .i64 b) := bkeep hb6 (by first | (simp [go_sem]; done) | (simp [go_sem, a15]; done) | exact a15); have r06 : w6.cell? ⟨w.heap.size + 1, 0, none⟩ = some (.int .i64 0) := bkeep hb6 (by first | (simp [go_sem]; done) | (simp [go_sem, r05]; done) | exact r05); have r16 : w6.cell? ⟨w.heap.size + 1, 1, none⟩ = some (.int .i64 0) := bkeep hb6 (by first | (simp [go_sem]; done) | (simp [go_sem, r15]; done) | exact r15); have z06 : w6.frozen? ⟨w.heap.size + 1, 0, none⟩ = false := bfrz hb6 (by first | omega | (simp; done) | (simp; omega)) (by first | (simp [go_sem]; done) | (simp [go_sem, z05]; done) | exact z05); have z16 : w6.frozen? ⟨w.heap.size + 1, 1, none⟩ = false := bfrz hb6 (by first | omega | (simp; done) | (simp; omega)) (by first | (simp [go_sem]; done) | (simp [go_sem, z15]; done) | exact z15)))
          all_goals exact bodyPost_ret (v := .tuple #[.agg #[.int .i64 (((0, 0, 6) : Int × Int × Int).1), .int .i64 (((0, 0, 6) : Int × Int × Int).2.1)], .int .i64 (((0, 0, 6) : Int × Int × Int).2.2)]) (by simp [results, Tryz.results81, go_sem, r06, r16]) rfl ⟨rfl, by (repeat (first | with_reducible exact Below.refl _ _ | with_reducible assumption | refine Below.alloc ?_ (by (try simp); try omega) _ | refine Below.setCell ?_ (by (try simp); try omega) _ | refine below_drewN ?_ _ | refine Below.drew ?_ | (with_reducible refine Below.trans ?_ (Below.mono (by assumption) (by (try simp); try omega)))))⟩
        · skip
          clear g
          go_enter Tryz.func81, Tryz.ntmps81
          go_wp2_with (first | (go_at_call 50; (with_reducible refine (hr _).mono ?_); rintro e w1 ⟨rfl, hb1⟩; (with_reducible (first | (replace hb1 := undrewW hb1) | skip)); have hz1 : w.heap.size + 1 < w1.heap.size := (by have := hb1.size; (try simp at this); omega); have a01 : w1.cell? ⟨w.heap.size, 0, none⟩ = some (.int .i64 a) := bkeep hb1 (by first | (simp [go_sem]; done)); have a11 : w1.cell? ⟨w.heap.size, 1, none⟩ = some (.int .i64 b) := bkeep hb1 (by first | (simp [go_sem]; done)); have r01 : w1.cell? ⟨w.heap.size + 1, 0, none⟩ = some (.int .i64 0) := bkeep hb1 (by first | (simp [go_sem]; done)); have r11 : w1.cell? ⟨w.heap.size + 1, 1, none⟩ = some (.int .i64 0) := bkeep hb1 (by first | (simp [go_sem]; done)); have z01 : w1.frozen? ⟨w.heap.size + 1, 0, none⟩ = false := bfrz hb1 (by first | omega | (simp; done) | (simp; omega)) (by first | (simp [go_sem]; done)); have z11 : w1.frozen? ⟨w.heap.size + 1, 1, none⟩ = false := bfrz hb1 (by first | omega | (simp; done) | (simp; omega)) (by first | (simp [go_sem]; done))) | (go_at_call 95; (with_reducible refine (c1 _).mono ?_); rintro e w2 ⟨⟨o1, q1, rfl, rfl, -, -, -⟩, hb2⟩; (with_reducible (first | (replace hb2 := undrewW hb2) | skip)); have hz2 : w.heap.size + 1 < w2.heap.size := (by have := hb2.size; (try simp at this); omega); have a02 : w2.cell? ⟨w.heap.size, 0, none⟩ = some (.int .i64 a) := bkeep hb2 (by first | (simp [go_sem]; done) | (simp [go_sem, a01]; done) | exact a01); have a12 : w2.cell? ⟨w.heap.size, 1, none⟩ = some (.int .i64 b) := bkeep hb2 (by first | (simp [go_sem]; done) | (simp [go_sem, a11]; done) | exact a11); have r02 : w2.cell? ⟨w.heap.size + 1, 0, none⟩ = some (.int .i64 0) := bkeep hb2 (by first | (simp [go_sem]; done) | (simp [go_sem, r01]; done) | exact r01); have r12 : w2.cell? ⟨w.heap.size + 1, 1, none⟩ = some (.int .i64 0) := bkeep hb2 (by first | (simp [go_sem]; done) | (simp [go_sem, r11]; done) | exact r11); have z02 : w2.frozen? ⟨w.heap.size + 1, 0, none⟩ = false := bfrz hb2 (by first | omega | (simp; done) | (simp; omega)) (by first | (simp [go_sem]; done) | (simp [go_sem, z01]; done) | exact z01); have z12 : w2.frozen? ⟨w.heap.size + 1, 1, none⟩ = false := bfrz hb2 (by first | omega | (simp; done) | (simp; omega)) (by first | (simp [go_sem]; done) | (simp [go_sem, z11]; done) | exact z11)) | (go_at_call 95; (with_reducible refine (c2 _).mono ?_); rintro e w3 ⟨⟨o2, q2, rfl, rfl, -, -, -⟩, hb3⟩; (with_reducible (first | (replace hb3 := undrewW hb3) | skip)); have hz3 : w.heap.size + 1 < w3.heap.size := (by have := hb3.size; (try simp at this); omega); have a03 : w3.cell? ⟨w.heap.size, 0, none⟩ = some (.int .i64 a) := bkeep hb3 (by first | (simp [go_sem]; done) | (simp [go_sem, a02]; done) | exact a02); have a13 : w3.cell? ⟨w.heap.size, 1, none⟩ = some (.int .i64 b) := bkeep hb3 (by first | (simp [go_sem]; done) | (simp [go_sem, a12]; done) | exact a12); have r03 : w3.cell? ⟨w.heap.size + 1, 0, none⟩ = some (.int .i64 0) := bkeep hb3 (by first | (simp [go_sem]; done) | (simp [go_sem, r02]; done) | exact r02); have r13 : w3.cell? ⟨w.heap.size + 1, 1, none⟩ = some (.int .i64 0) := bkeep hb3 (by first | (simp [go_sem]; done) | (simp [go_sem, r12]; done) | exact r12); have z03 : w3.frozen? ⟨w.heap.size + 1, 0, none⟩ = false := bfrz hb3 (by first | omega | (simp; done) | (simp; omega)) (by first | (simp [go_sem]; done) | (simp [go_sem, z02]; done) | exact z02); have z13 : w3.frozen? ⟨w.heap.size + 1, 1, none⟩ = false := bfrz hb3 (by first | omega | (simp; done) | (simp; omega)) (by first | (simp [go_sem]; done) | (simp [go_sem, z12]; done) | exact z12)) | (go_at_call 95; (with_reducible refine (c3 _).mono ?_); rintro e w4 ⟨⟨o3, q3, rfl, rfl, -, -, -⟩, hb4⟩; (with_reducible (first | (replace hb4 := undrewW hb4) | skip)); have hz4 : w.heap.size + 1 < w4.heap.size := (by have := hb4.size; (try simp at this); omega); have a04 : w4.cell? ⟨w.heap.size, 0, none⟩ = some (.int .i64 a) := bkeep hb4 (by first | (simp [go_sem]; done) | (simp [go_sem, a03]; done) | exact a03); have a14 : w4.cell? ⟨w.heap.size, 1, none⟩ = some (.int .i64 b) := bkeep hb4 (by first | (simp [go_sem]; done) | (simp [go_sem, a13]; done) | exact a13); have r04 : w4.cell? ⟨w.heap.size + 1, 0, none⟩ = some (.int .i64 0) := bkeep hb4 (by first | (simp [go_sem]; done) | (simp [go_sem, r03]; done) | exact r03); have r14 : w4.cell? ⟨w.heap.size + 1, 1, none⟩ = some (.int .i64 0) := bkeep hb4 (by first | (simp [go_sem]; done) | (simp [go_sem, r13]; done) | exact r13); have z04 : w4.frozen? ⟨w.heap.size + 1, 0, none⟩ = false := bfrz hb4 (by first | omega | (simp; done) | (simp; omega)) (by first | (simp [go_sem]; done) | (simp [go_sem, z03]; done) | exact z03); have z14 : w4.frozen? ⟨w.heap.size + 1, 1, none⟩ = false := bfrz hb4 (by first | omega | (simp; done) | (simp; omega)) (by first | (simp [go_sem]; done) | (simp [go_sem, z13]; done) | exact z13)) | (go_at_call 95; (with_reducible refine (c4 _).mono ?_); rintro e w5 ⟨⟨o4, q4, rfl, rfl, -, -, -⟩, hb5⟩; (with_reducible (first | (replace hb5 := undrewW hb5) | skip)); have hz5 : w.heap.size + 1 < w5.heap.size := (by have := hb5.size; (try simp at this); omega); have a05 : w5.cell? ⟨w.heap.size, 0, none⟩ = some (.int .i64 a) := bkeep hb5 (by first | (simp [go_sem]; done) | (simp [go_sem, a04]; done) | exact a04); have a15 : w5.cell? ⟨w.heap.size, 1, none⟩ = some (.int .i64 b) := bkeep hb5 (by first | (simp [go_sem]; done) | (simp [go_sem, a14]; done) | exact a14); have r05 : w5.cell? ⟨w.heap.size + 1, 0, none⟩ = some (.int .i64 0) := bkeep hb5 (by first | (simp [go_sem]; done) | (simp [go_sem, r04]; done) | exact r04); have r15 : w5.cell? ⟨w.heap.size + 1, 1, none⟩ = some (.int .i64 0) := bkeep hb5 (by first | (simp [go_sem]; done) | (simp [go_sem, r14]; done) | exact r14); have z05 : w5.frozen? ⟨w.heap.size + 1, 0, none⟩ = false := bfrz hb5 (by first | omega | (simp; done) | (simp; omega)) (by first | (simp [go_sem]; done) | (simp [go_sem, z04]; done) | exact z04); have z15 : w5.frozen? ⟨w.heap.size + 1, 1, none⟩ = false := bfrz hb5 (by first | omega | (simp; done) | (simp; omega)) (by first | (simp [go_sem]; done) | (simp [go_sem, z14]; done) | exact z14)) | (go_at_call 70; (with_reducible refine (result_no _ _ _).mono ?_); rintro e w6 ⟨rfl, hb6⟩; (with_reducible (first | (replace hb6 := undrewW hb6) | skip)); have hz6 : w.heap.size + 1 < w6.heap.size := (by have := hb6.size; (try simp at this); omega); have a06 : w6.cell? ⟨w.heap.size, 0, none⟩ = some (.int .i64 a) := bkeep hb6 (by first | (simp [go_sem]; done) | (simp [go_sem, a05]; done) | exact a05); have a16 : w6.cell? ⟨w.heap.size, 1, none⟩ = some (.int .i64 b) := bkeep hb6 (by first | (simp [go_sem]; done) | (simp [go_sem, a15]; done) | exact a15); have r06 : w6.cell? ⟨w.heap.size + 1, 0, none⟩ = some (.int .i64 0) := bkeep hb6 (by first | (simp [go_sem]; done) | (simp [go_sem, r05]; done) | exact r05); have r16 : w6.cell? ⟨w.heap.size + 1, 1, none⟩ = some (.int .i64 0) := bkeep hb6 (by first | (simp [go_sem]; done) | (simp [go_sem, r15]; done) | exact r15); have z06 : w6.frozen? ⟨w.heap.size + 1, 0, none⟩ = false := bfrz hb6 (by first | omega | (simp; done) | (simp; omega)) (by first | (simp [go_sem]; done) | (simp [go_sem, z05]; done) | exact z05); have z16 : w6.frozen? ⟨w.heap.size + 1, 1, none⟩ = false := bfrz hb6 (by first | omega | (simp; done) | (simp; omega)) (by first | (simp [go_sem]; done) | (simp [go_sem, z15]; done) | exact z15)))
          all_goals exact bodyPost_ret (v := .tuple #[.agg #[.int .i64 (((0, 0, 6) : Int × Int × Int).1), .int .i64 (((0, 0, 6) : Int × Int × Int).2.1)], .int .i64 (((0, 0, 6) : Int × Int × Int).2.2)]) (by simp [results, Tryz.results81, go_sem, r06, r16]) rfl ⟨rfl, by (repeat (first | with_reducible exact Below.refl _ _ | with_reducible assumption | refine Below.alloc ?_ (by (try simp); try omega) _ | refine Below.setCell ?_ (by (try simp); try omega) _ | refine below_drewN ?_ _ | refine Below.drew ?_ | (with_reducible refine Below.trans ?_ (Below.mono (by assumption) (by (try simp); try omega)))))⟩
    · replace g1 : okF x1 = false := by simpa using g1
      rcases hev with hev | hev
      · skip
        clear g
        go_enter Tryz.func81, Tryz.ntmps81
        go_wp2_with (first | (go_at_call 50; (with_reducible refine (hr _).mono ?_); rintro e w1 ⟨rfl, hb1⟩; (with_reducible (first | (replace hb1 := undrewW hb1) | skip)); have hz1 : w.heap.size + 1 < w1.heap.size := (by have := hb1.size; (try simp at this); omega); have a01 : w1.cell? ⟨w.heap.size, 0, none⟩ = some (.int .i64 a) := bkeep hb1 (by first | (simp [go_sem]; done)); have a11 : w1.cell? ⟨w.heap.size, 1, none⟩ = some (.int .i64 b) := bkeep hb1 (by first | (simp [go_sem]; done)); have r01 : w1.cell? ⟨w.heap.size + 1, 0, none⟩ = some (.int .i64 0) := bkeep hb1 (by first | (simp [go_sem]; done)); have r11 : w1.cell? ⟨w.heap.size + 1, 1, none⟩ = some (.int .i64 0) := bkeep hb1 (by first | (simp [go_sem]; done)); have z01 : w1.frozen? ⟨w.heap.size + 1, 0, none⟩ = false := bfrz hb1 (by first | omega | (simp; done) | (simp; omega)) (by first | (simp [go_sem]; done)); have z11 : w1.frozen? ⟨w.heap.size + 1, 1, none⟩ = false := bfrz hb1 (by first | omega | (simp; done) | (simp; omega)) (by first | (simp [go_sem]; done))) | (go_at_call 95; (with_reducible refine (c1 _).mono ?_); rintro e w2 ⟨⟨o1, q1, rfl, rfl, -, -, -⟩, hb2⟩; (with_reducible (first | (replace hb2 := undrewW hb2) | skip)); have hz2 : w.heap.size + 1 < w2.heap.size := (by have := hb2.size; (try simp at this); omega); have a02 : w2.cell? ⟨w.heap.size, 0, none⟩ = some (.int .i64 a) := bkeep hb2 (by first | (simp [go_sem]; done) | (simp [go_sem, a01]; done) | exact a01); have a12 : w2.cell? ⟨w.heap.size, 1, none⟩ = some (.int .i64 b) := bkeep hb2 (by first | (simp [go_sem]; done) | (simp [go_sem, a11]; done) | exact a11); have r02 : w2.cell? ⟨w.heap.size + 1, 0, none⟩ = some (.int .i64 0) := bkeep hb2 (by first | (simp [go_sem]; done) | (simp [go_sem, r01]; done) | exact r01); have r12 : w2.cell? ⟨w.heap.size + 1, 1, none⟩ = some (.int .i64 0) := bkeep hb2 (by first | (simp [go_sem]; done) | (simp [go_sem, r11]; done) | exact r11); have z02 : w2.frozen? ⟨w.heap.size + 1, 0, none⟩ = false := bfrz hb2 (by first | omega | (simp; done) | (simp; omega)) (by first | (simp [go_sem]; done) | (simp [go_sem, z01]; done) | exact z01); have z12 : w2.frozen? ⟨w.heap.size + 1, 1, none⟩ = false := bfrz hb2 (by first | omega | (simp; done) | (simp; omega)) (by first | (simp [go_sem]; done) | (simp [go_sem, z11]; done) | exact z11)) | (go_at_call 95; (with_reducible refine (c2 _).mono ?_); rintro e w3 ⟨⟨o2, q2, rfl, rfl, -, -, -⟩, hb3⟩; (with_reducible (first | (replace hb3 := undrewW hb3) | skip)); have hz3 : w.heap.size + 1 < w3.heap.size := (by have := hb3.size; (try simp at this); omega); have a03 : w3.cell? ⟨w.heap.size, 0, none⟩ = some (.int .i64 a) := bkeep hb3 (by first | (simp [go_sem]; done) | (simp [go_sem, a02]; done) | exact a02); have a13 : w3.cell? ⟨w.heap.size, 1, none⟩ = some (.int .i64 b) := bkeep hb3 (by first | (simp [go_sem]; done) | (simp [go_sem, a12]; done) | exact a12); have r03 : w3.cell? ⟨w.heap.size + 1, 0, none⟩ = some (.int .i64 0) := bkeep hb3 (by first | (simp [go_sem]; done) | (simp [go_sem, r02]; done) | exact r02); have r13 : w3.cell? ⟨w.heap.size + 1, 1, none⟩ = some (.int .i64 0) := bkeep hb3 (by first | (simp [go_sem]; done) | (simp [go_sem, r12]; done) | exact r12); have z03 : w3.frozen? ⟨w.heap.size + 1, 0, none⟩ = false := bfrz hb3 (by first | omega | (simp; done) | (simp; omega)) (by first | (simp [go_sem]; done) | (simp [go_sem, z02]; done) | exact z02); have z13 : w3.frozen? ⟨w.heap.size + 1, 1, none⟩ = false := bfrz hb3 (by first | omega | (simp; done) | (simp; omega)) (by first | (simp [go_sem]; done) | (simp [go_sem, z12]; done) | exact z12)) | (go_at_call 95; (with_reducible refine (c3 _).mono ?_); rintro e w4 ⟨⟨o3, q3, rfl, rfl, -, -, -⟩, hb4⟩; (with_reducible (first | (replace hb4 := undrewW hb4) | skip)); have hz4 : w.heap.size + 1 < w4.heap.size := (by have := hb4.size; (try simp at this); omega); have a04 : w4.cell? ⟨w.heap.size, 0, none⟩ = some (.int .i64 a) := bkeep hb4 (by first | (simp [go_sem]; done) | (simp [go_sem, a03]; done) | exact a03); have a14 : w4.cell? ⟨w.heap.size, 1, none⟩ = some (.int .i64 b) := bkeep hb4 (by first | (simp [go_sem]; done) | (simp [go_sem, a13]; done) | exact a13); have r04 : w4.cell? ⟨w.heap.size + 1, 0, none⟩ = some (.int .i64 0) := bkeep hb4 (by first | (simp [go_sem]; done) | (simp [go_sem, r03]; done) | exact r03); have r14 : w4.cell? ⟨w.heap.size + 1, 1, none⟩ = some (.int .i64 0) := bkeep hb4 (by first | (simp [go_sem]; done) | (simp [go_sem, r13]; done) | exact r13); have z04 : w4.frozen? ⟨w.heap.size + 1, 0, none⟩ = false := bfrz hb4 (by first | omega | (simp; done) | (simp; omega)) (by first | (simp [go_sem]; done) | (simp [go_sem, z03]; done) | exact z03); have z14 : w4.frozen? ⟨w.heap.size + 1, 1, none⟩ = false := bfrz hb4 (by first | omega | (simp; done) | (simp; omega)) (by first | (simp [go_sem]; done) | (simp [go_sem, z13]; done) | exact z13)) | (go_at_call 95; (with_reducible refine (c4 _).mono ?_); rintro e w5 ⟨⟨o4, q4, rfl, rfl, -, -, -⟩, hb5⟩; (with_reducible (first | (replace hb5 := undrewW hb5) | skip)); have hz5 : w.heap.size + 1 < w5.heap.size := (by have := hb5.size; (try simp at this); omega); have a05 : w5.cell? ⟨w.heap.size, 0, none⟩ = some (.int .i64 a) := bkeep hb5 (by first | (simp [go_sem]; done) | (simp [go_sem, a04]; done) | exact a04); have a15 : w5.cell? ⟨w.heap.size, 1, none⟩ = some (.int .i64 b) := bkeep hb5 (by first | (simp [go_sem]; done) | (simp [go_sem, a14]; done) | exact a14); have r05 : w5.cell? ⟨w.heap.size + 1, 0, none⟩ = some (.int .i64 0) := bkeep hb5 (by first | (simp [go_sem]; done) | (simp [go_sem, r04]; done) | exact r04); have r15 : w5.cell? ⟨w.heap.size + 1, 1, none⟩ = some (.int .i64 0) := bkeep hb5 (by first | (simp [go_sem]; done) | (simp [go_sem, r14]; done) | exact r14); have z05 : w5.frozen? ⟨w.heap.size + 1, 0, none⟩ = false := bfrz hb5 (by first | omega | (simp; done) | (simp; omega)) (by first | (simp [go_sem]; done) | (simp [go_sem, z04]; done) | exact z04); have z15 : w5.frozen? ⟨w.heap.size + 1, 1, none⟩ = false := bfrz hb5 (by first | omega | (simp; done) | (simp; omega)) (by first | (simp [go_sem]; done) | (simp [go_sem, z14]; done) | exact z14)) | (go_at_call 70; (with_reducible refine (result_no _ _ _).mono ?_); rintro e w6 ⟨rfl, hb6⟩; (with_reducible (first | (replace hb6 := undrewW hb6) | skip)); have hz6 : w.heap.size + 1 < w6.heap.size := (by have := hb6.size; (try simp at this); omega); have a06 : w6.cell? ⟨w.heap.size, 0, none⟩ = some (.int .i64 a) := bkeep hb6 (by first | (simp [go_sem]; done) | (simp [go_sem, a05]; done) | exact a05); have a16 : w6.cell? ⟨w.heap.size, 1, none⟩ = some (.int .i64 b) := bkeep hb6 (by first | (simp [go_sem]; done) | (simp [go_sem, a15]; done) | exact a15); have r06 : w6.cell? ⟨w.heap.size + 1, 0, none⟩ = some (.int .i64 0) := bkeep hb6 (by first | (simp [go_sem]; done) | (simp [go_sem, r05]; done) | exact r05); have r16 : w6.cell? ⟨w.heap.size + 1, 1, none⟩ = some (.int .i64 0) := bkeep hb6 (by first | (simp [go_sem]; done) | (simp [go_sem, r15]; done) | exact r15); have z06 : w6.frozen? ⟨w.heap.size + 1, 0, none⟩ = false := bfrz hb6 (by first | omega | (simp; done) | (simp; omega)) (by first | (simp [go_sem]; done) | (simp [go_sem, z05]; done) | exact z05); have z16 : w6.frozen? ⟨w.heap.size + 1, 1, none⟩ = false := bfrz hb6 (by first | omega | (simp; done) | (simp; omega)) (by first | (simp [go_sem]; done) | (simp [go_sem, z15]; done) | exact z15)))
        all_goals exact bodyPost_ret (v := .tuple #[.agg #[.int .i64 (((0, 0, 6) : Int × Int × Int).1), .int .i64 (((0, 0, 6) : Int × Int × Int).2.1)], .int .i64 (((0, 0, 6) : Int × Int × Int).2.2)]) (by simp [results, Tryz.results81, go_sem, r06, r16]) rfl ⟨rfl, by (repeat (first | with_reducible exact Below.refl _ _ | with_reducible assumption | refine Below.alloc ?_ (by (try simp); try omega) _ | refine Below.setCell ?_ (by (try simp); try omega) _ | refine below_drewN ?_ _ | refine Below.drew ?_ | (with_reducible refine Below.trans ?_ (Below.mono (by assumption) (by (try simp); try omega)))))⟩
      · skip
        clear g
        go_enter Tryz.func81, Tryz.ntmps81
        go_wp2_with (first | (go_at_call 50; (with_reducible refine (hr _).mono ?_); rintro e w1 ⟨rfl, hb1⟩; (with_reducible (first | (replace hb1 := undrewW hb1) | skip)); have hz1 : w.heap.size + 1 < w1.heap.size := (by have := hb1.size; (try simp at this); omega); have a01 : w1.cell? ⟨w.heap.size, 0, none⟩ = some (.int .i64 a) := bkeep hb1 (by first | (simp [go_sem]; done)); have a11 : w1.cell? ⟨w.heap.size, 1, none⟩ = some (.int .i64 b) := bkeep hb1 (by first | (simp [go_sem]; done)); have r01 : w1.cell? ⟨w.heap.size + 1, 0, none⟩ = some (.int .i64 0) := bkeep hb1 (by first | (simp [go_sem]; done)); have r11 : w1.cell? ⟨w.heap.size + 1, 1, none⟩ = some (.int .i64 0) := bkeep hb1 (by first | (simp [go_sem]; done)); have z01 : w1.frozen? ⟨w.heap.size + 1, 0, none⟩ = false := bfrz hb1 (by first | omega | (simp; done) | (simp; omega)) (by first | (simp [go_sem]; done)); have z11 : w1.frozen? ⟨w.heap.size + 1, 1, none⟩ = false := bfrz hb1 (by first | omega | (simp; done) | (simp; omega)) (by first | (simp [go_sem]; done))) | (go_at_call 95; (with_reducible refine (c1 _).mono ?_); rintro e w2 ⟨⟨o1, q1, rfl, rfl, -, -, -⟩, hb2⟩; (with_reducible (first | (replace hb2 := undrewW hb2) | skip)); have hz2 : w.heap.size + 1 < w2.heap.size := (by have := hb2.size; (try simp at this); omega); have a02 : w2.cell? ⟨w.heap.size, 0, none⟩ = some (.int .i64 a) := bkeep hb2 (by first | (simp [go_sem]; done) | (simp [go_sem, a01]; done) | exact a01); have a12 : w2.cell? ⟨w.heap.size, 1, none⟩ = some (.int .i64 b) := bkeep hb2 (by first | (simp [go_sem]; done) | (simp [go_sem, a11]; done) | exact a11); have r02 : w2.cell? ⟨w.heap.size + 1, 0, none⟩ = some (.int .i64 0) := bkeep hb2 (by first | (simp [go_sem]; done) | (simp [go_sem, r01]; done) | exact r01); have r12 : w2.cell? ⟨w.heap.size + 1, 1, none⟩ = some (.int .i64 0) := bkeep hb2 (by first | (simp [go_sem]; done) | (simp [go_sem, r11]; done) | exact r11); have z02 : w2.frozen? ⟨w.heap.size + 1, 0, none⟩ = false := bfrz hb2 (by first | omega | (simp; done) | (simp; omega)) (by first | (simp [go_sem]; done) | (simp [go_sem, z01]; done) | exact z01); have z12 : w2.frozen? ⟨w.heap.size + 1, 1, none⟩ = false := bfrz hb2 (by first | omega | (simp; done) | (simp; omega)) (by first | (simp [go_sem]; done) | (simp [go_sem, z11]; done) | exact z11)) | (go_at_call 95; (with_reducible refine (c2 _).mono ?_); rintro e w3 ⟨⟨o2, q2, rfl, rfl, -, -, -⟩, hb3⟩; (with_reducible (first | (replace hb3 := undrewW hb3) | skip)); have hz3 : w.heap.size + 1 < w3.heap.size := (by have := hb3.size; (try simp at this); omega); have a03 : w3.cell? ⟨w.heap.size, 0, none⟩ = some (.int .i64 a) := bkeep hb3 (by first | (simp [go_sem]; done) | (simp [go_sem, a02]; done) | exact a02); have a13 : w3.cell? ⟨w.heap.size, 1, none⟩ = some (.int .i64 b) := bkeep hb3 (by first | (simp [go_sem]; done) | (simp [go_sem, a12]; done) | exact a12); have r03 : w3.cell? ⟨w.heap.size + 1, 0, none⟩ = some (.int .i64 0) := bkeep hb3 (by first | (simp [go_sem]; done) | (simp [go_sem, r02]; done) | exact r02); have r13 : w3.cell? ⟨w.heap.size + 1, 1, none⟩ = some (.int .i64 0) := bkeep hb3 (by first | (simp [go_sem]; done) | (simp [go_sem, r12]; done) | exact r12); have z03 : w3.frozen? ⟨w.heap.size + 1, 0, none⟩ = false := bfrz hb3 (by first | omega | (simp; done) | (simp; omega)) (by first | (simp [go_sem]; done) | (simp [go_sem, z02]; done) | exact z02); have z13 : w3.frozen? ⟨w.heap.size + 1, 1, none⟩ = false := bfrz hb3 (by first | omega | (simp; done) | (simp; omega)) (by first | (simp [go_sem]; done) | (simp [go_sem, z12]; done) | exact z12)) | (go_at_call 95; (with_reducible refine (c3 _).mono ?_); rintro e w4 ⟨⟨o3, q3, rfl, rfl, -, -, -⟩, hb4⟩; (with_reducible (first | (replace hb4 := undrewW hb4) | skip)); have hz4 : w.heap.size + 1 < w4.heap.size := (by have := hb4.size; (try simp at this); omega); have a04 : w4.cell? ⟨w.heap.size, 0, none⟩ = some (.int .i64 a) := bkeep hb4 (by first | (simp [go_sem]; done) | (simp [go_sem, a03]; done) | exact a03); have a14 : w4.cell? ⟨w.heap.size, 1, none⟩ = some (.int .i64 b) := bkeep hb4 (by first | (simp [go_sem]; done) | (simp [go_sem, a13]; done) | exact a13); have r04 : w4.cell? ⟨w.heap.size + 1, 0, none⟩ = some (.int .i64 0) := bkeep hb4 (by first | (simp [go_sem]; done) | (simp [go_sem, r03]; done) | exact r03); have r14 : w4.cell? ⟨w.heap.size + 1, 1, none⟩ = some (.int .i64 0) := bkeep hb4 (by first | (simp [go_sem]; done) | (simp [go_sem, r13]; done) | exact r13); have z04 : w4.frozen? ⟨w.heap.size + 1, 0, none⟩ = false := bfrz hb4 (by first | omega | (simp; done) | (simp; omega)) (by first | (simp [go_sem]; done) | (simp [go_sem, z03]; done) | exact z03); have z14 : w4.frozen? ⟨w.heap.size + 1, 1, none⟩ = false := bfrz hb4 (by first | omega | (simp; done) | (simp; omega)) (by first | (simp [go_sem]; done) | (simp [go_sem, z13]; done) | exact z13)) | (go_at_call 95; (with_reducible refine (c4 _).mono ?_); rintro e w5 ⟨⟨o4, q4, rfl, rfl, -, -, -⟩, hb5⟩; (with_reducible (first | (replace hb5 := undrewW hb5) | skip)); have hz5 : w.heap.size + 1 < w5.heap.size := (by have := hb5.size; (try simp at this); omega); have a05 : w5.cell? ⟨w.heap.size, 0, none⟩ = some (.int .i64 a) := bkeep hb5 (by first | (simp [go_sem]; done) | (simp [go_sem, a04]; done) | exact a04); have a15 : w5.cell? ⟨w.heap.size, 1, none⟩ = some (.int .i64 b) := bkeep hb5 (by first | (simp [go_sem]; done) | (simp [go_sem, a14]; done) | exact a14); have r05 : w5.cell? ⟨w.heap.size + 1, 0, none⟩ = some (.int .i64 0) := bkeep hb5 (by first | (simp [go_sem]; done) | (simp [go_sem, r04]; done) | exact r04); have r15 : w5.cell? ⟨w.heap.size + 1, 1, none⟩ = some (.int .i64 0) := bkeep hb5 (by first | (simp [go_sem]; done) | (simp [go_sem, r14]; done) | exact r14); have z05 : w5.frozen? ⟨w.heap.size + 1, 0, none⟩ = false := bfrz hb5 (by first | omega | (simp; done) | (simp; omega)) (by first | (simp [go_sem]; done) | (simp [go_sem, z04]; done) | exact z04); have z15 : w5.frozen? ⟨w.heap.size + 1, 1, none⟩ = false := bfrz hb5 (by first | omega | (simp; done) | (simp; omega)) (by first | (simp [go_sem]; done) | (simp [go_sem, z14]; done) | exact z14)) | (go_at_call 70; (with_reducible refine (result_no _ _ _).mono ?_); rintro e w6 ⟨rfl, hb6⟩; (with_reducible (first | (replace hb6 := undrewW hb6) | skip)); have hz6 : w.heap.size + 1 < w6.heap.size := (by have := hb6.size; (try simp at this); omega); have a06 : w6.cell? ⟨w.heap.size, 0, none⟩ = some (.int .i64 a) := bkeep hb6 (by first | (simp [go_sem]; done) | (simp [go_sem, a05]; done) | exact a05); have a16 : w6.cell? ⟨w.heap.size, 1, none⟩ = some (.int .i64 b) := bkeep hb6 (by first | (simp [go_sem]; done) | (simp [go_sem, a15]; done) | exact a15); have r06 : w6.cell? ⟨w.heap.size + 1, 0, none⟩ = some (.int .i64 0) := bkeep hb6 (by first | (simp [go_sem]; done) | (simp [go_sem, r05]; done) | exact r05); have r16 : w6.cell? ⟨w.heap.size + 1, 1, none⟩ = some (.int .i64 0) := bkeep hb6 (by first | (simp [go_sem]; done) | (simp [go_sem, r15]; done) | exact r15); have z06 : w6.frozen? ⟨w.heap.size + 1, 0, none⟩ = false := bfrz hb6 (by first | omega | (simp; done) | (simp; omega)) (by first | (simp [go_sem]; done) | (simp [go_sem, z05]; done) | exact z05); have z16 : w6.frozen? ⟨w.heap.size + 1, 1, none⟩ = false := bfrz hb6 (by first | omega | (simp; done) | (simp; omega)) (by first | (simp [go_sem]; done) | (simp [go_sem, z15]; done) | exact z15)))
        all_goals exact bodyPost_ret (v := .tuple #[.agg #[.int .i64 (((0, 0, 6) : Int × Int × Int).1), .int .i64 (((0, 0, 6) : Int × Int × Int).2.1)], .int .i64 (((0, 0, 6) : Int × Int × Int).2.2)]) (by simp [results, Tryz.results81, go_sem, r06, r16]) rfl ⟨rfl, by (repeat (first | with_reducible exact Below.refl _ _ | with_reducible assumption | refine Below.alloc ?_ (by (try simp); try omega) _ | refine Below.setCell ?_ (by (try simp); try omega) _ | refine below_drewN ?_ _ | refine Below.drew ?_ | (with_reducible refine Below.trans ?_ (Below.mono (by assumption) (by (try simp); try omega)))))⟩

set_option maxHeartbeats 4000000 in
theorem rPow_any (a b n : Int) (w : World) :
    Calls Tryz.prog 81 #[.agg #[.int .i64 a, .int .i64 b], .int .i64 n] w fun e w' => e = .returned (.tuple #[.agg #[.int .i64 (sPowR a b n).1, .int .i64 (sPowR a b n).2.1], .int .i64 (sPowR a b n).2.2]) ∧ Below w.heap.size w w' := by
  rcases ckS_cases a b with ⟨k, h0, h1, h2⟩ | ⟨k, k0⟩
  · by_cases n0 : n < 0
    · rw [show sPowR a b n = (0, 0, 2) by unfold sPowR; rw [if_pos k, if_pos (Or.inl n0)]]
      have hr := rRight_ok a b k
      clear k
      go_enter Tryz.func81, Tryz.ntmps81
      go_wp2_with (go_at_call 50; (with_reducible refine (hr _).mono ?_); rintro e w1 ⟨rfl, hb1⟩; (with_reducible (first | (replace hb1 := undrewW hb1) | skip)); have hz1 : w.heap.size + 1 < w1.heap.size := (by have := hb1.size; (try simp at this); omega); have a01 : w1.cell? ⟨w.heap.size, 0, none⟩ = some (.int .i64 a) := bkeep hb1 (by first | (simp [go_sem]; done)); have a11 : w1.cell? ⟨w.heap.size, 1, none⟩ = some (.int .i64 b) := bkeep hb1 (by first | (simp [go_sem]; done)); have r01 : w1.cell? ⟨w.heap.size + 1, 0, none⟩ = some (.int .i64 0) := bkeep hb1 (by first | (simp [go_sem]; done)); have r11 : w1.cell? ⟨w.heap.size + 1, 1, none⟩ = some (.int .i64 0) := bkeep hb1 (by first | (simp [go_sem]; done)); have z01 : w1.frozen? ⟨w.heap.size + 1, 0, none⟩ = false := bfrz hb1 (by first | omega | (simp; done) | (simp; omega)) (by first | (simp [go_sem]; done)); have z11 : w1.frozen? ⟨w.heap.size + 1, 1, none⟩ = false := bfrz hb1 (by first | omega | (simp; done) | (simp; omega)) (by first | (simp [go_sem]; done)))
      exact bodyPost_ret (v := .tuple #[.agg #[.int .i64 (((0, 0, 2) : Int × Int × Int).1), .int .i64 (((0, 0, 2) : Int × Int × Int).2.1)], .int .i64 (((0, 0, 2) : Int × Int × Int).2.2)]) (by simp [results, Tryz.results81, go_sem, r01, r11]) rfl ⟨rfl, by (repeat (first | with_reducible exact Below.refl _ _ | with_reducible assumption | refine Below.alloc ?_ (by (try simp); try omega) _ | refine Below.setCell ?_ (by (try simp); try omega) _ | refine below_drewN ?_ _ | refine Below.drew ?_ | (with_reducible refine Below.trans ?_ (Below.mono (by assumption) (by (try simp); try omega)))))⟩
    by_cases n1 : 16 < n
    · rw [show sPowR a b n = (0, 0, 2) by unfold sPowR; rw [if_pos k, if_pos (Or.inr n1)]]
      have hr := rRight_ok a b k
      clear k
      go_enter Tryz.func81, Tryz.ntmps81
      go_wp2_with (go_at_call 50; (with_reducible refine (hr _).mono ?_); rintro e w1 ⟨rfl, hb1⟩; (with_reducible (first | (replace hb1 := undrewW hb1) | skip)); have hz1 : w.heap.size + 1 < w1.heap.size := (by have := hb1.size; (try simp at this); omega); have a01 : w1.cell? ⟨w.heap.size, 0, none⟩ = some (.int .i64 a) := bkeep hb1 (by first | (simp [go_sem]; done)); have a11 : w1.cell? ⟨w.heap.size, 1, none⟩ = some (.int .i64 b) := bkeep hb1 (by first | (simp [go_sem]; done)); have r01 : w1.cell? ⟨w.heap.size + 1, 0, none⟩ = some (.int .i64 0) := bkeep hb1 (by first | (simp [go_sem]; done)); have r11 : w1.cell? ⟨w.heap.size + 1, 1, none⟩ = some (.int .i64 0) := bkeep hb1 (by first | (simp [go_sem]; done)); have z01 : w1.frozen? ⟨w.heap.size + 1, 0, none⟩ = false := bfrz hb1 (by first | omega | (simp; done) | (simp; omega)) (by first | (simp [go_sem]; done)); have z11 : w1.frozen? ⟨w.heap.size + 1, 1, none⟩ = false := bfrz hb1 (by first | omega | (simp; done) | (simp; omega)) (by first | (simp [go_sem]; done)))
      exact bodyPost_ret (v := .tuple #[.agg #[.int .i64 (((0, 0, 2) : Int × Int × Int).1), .int .i64 (((0, 0, 2) : Int × Int × Int).2.1)], .int .i64 (((0, 0, 2) : Int × Int × Int).2.2)]) (by simp [results, Tryz.results81, go_sem, r01, r11]) rfl ⟨rfl, by (repeat (first | with_reducible exact Below.refl _ _ | with_reducible assumption | refine Below.alloc ?_ (by (try simp); try omega) _ | refine Below.setCell ?_ (by (try simp); try omega) _ | refine below_drewN ?_ _ | refine Below.drew ?_ | (with_reducible refine Below.trans ?_ (Below.mono (by assumption) (by (try simp); try omega)))))⟩
    by_cases n2 : n = 0
    · subst n2
      rw [show sPowR a b 0 = (4294967296, 4294967296, 0) by unfold sPowR; rw [if_pos k, if_neg (by omega), if_pos rfl]]
      have hr := rRight_ok a b k
      clear k
      go_enter Tryz.func81, Tryz.ntmps81
      go_wp2_with (go_at_call 50; (with_reducible refine (hr _).mono ?_); rintro e w1 ⟨rfl, hb1⟩; (with_reducible (first | (replace hb1 := undrewW hb1) | skip)); have hz1 : w.heap.size + 1 < w1.heap.size := (by have := hb1.size; (try simp at this); omega); have a01 : w1.cell? ⟨w.heap.size, 0, none⟩ = some (.int .i64 a) := bkeep hb1 (by first | (simp [go_sem]; done)); have a11 : w1.cell? ⟨w.heap.size, 1, none⟩ = some (.int .i64 b) := bkeep hb1 (by first | (simp [go_sem]; done)); have r01 : w1.cell? ⟨w.heap.size + 1, 0, none⟩ = some (.int .i64 0) := bkeep hb1 (by first | (simp [go_sem]; done)); have r11 : w1.cell? ⟨w.heap.size + 1, 1, none⟩ = some (.int .i64 0) := bkeep hb1 (by first | (simp [go_sem]; done)); have z01 : w1.frozen? ⟨w.heap.size + 1, 0, none⟩ = false := bfrz hb1 (by first | omega | (simp; done) | (simp; omega)) (by first | (simp [go_sem]; done)); have z11 : w1.frozen? ⟨w.heap.size + 1, 1, none⟩ = false := bfrz hb1 (by first | omega | (simp; done) | (simp; omega)) (by first | (simp [go_sem]; done)))
      exact bodyPost_ret (v := .tuple #[.agg #[.int .i64 (((4294967296, 4294967296, 0) : Int × Int × Int).1), .int .i64 (((4294967296, 4294967296, 0) : Int × Int × Int).2.1)], .int .i64 (((4294967296, 4294967296, 0) : Int × Int × Int).2.2)]) (by simp [results, Tryz.results81, go_sem, r01, r11]) rfl ⟨rfl, by (repeat (first | with_reducible exact Below.refl _ _ | with_reducible assumption | refine Below.alloc ?_ (by (try simp); try omega) _ | refine Below.setCell ?_ (by (try simp); try omega) _ | refine below_drewN ?_ _ | refine Below.drew ?_ | (with_reducible refine Below.trans ?_ (Below.mono (by assumption) (by (try simp); try omega)))))⟩
    obtain ⟨N, rfl⟩ : ∃ N : Nat, n = N := ⟨n.toNat, by omega⟩
    exact rPow_in a b N w (by omega) (by omega) k
  · rw [show sPowR a b n = (0, 0, 20) by unfold sPowR; rw [if_neg (by omega)]]
    have hr := rRight_no a b k
    clear k k0
    go_enter Tryz.func81, Tryz.ntmps81
    go_wp2_with (go_at_call 50; (with_reducible refine (hr _).mono ?_); rintro e w1 ⟨rfl, hb1⟩; (with_reducible (first | (replace hb1 := undrewW hb1) | skip)); have hz1 : w.heap.size + 1 < w1.heap.size := (by have := hb1.size; (try simp at this); omega); have a01 : w1.cell? ⟨w.heap.size, 0, none⟩ = some (.int .i64 a) := bkeep hb1 (by first | (simp [go_sem]; done)); have a11 : w1.cell? ⟨w.heap.size, 1, none⟩ = some (.int .i64 b) := bkeep hb1 (by first | (simp [go_sem]; done)); have r01 : w1.cell? ⟨w.heap.size + 1, 0, none⟩ = some (.int .i64 0) := bkeep hb1 (by first | (simp [go_sem]; done)); have r11 : w1.cell? ⟨w.heap.size + 1, 1, none⟩ = some (.int .i64 0) := bkeep hb1 (by first | (simp [go_sem]; done)); have z01 : w1.frozen? ⟨w.heap.size + 1, 0, none⟩ = false := bfrz hb1 (by first | omega | (simp; done) | (simp; omega)) (by first | (simp [go_sem]; done)); have z11 : w1.frozen? ⟨w.heap.size + 1, 1, none⟩ = false := bfrz hb1 (by first | omega | (simp; done) | (simp; omega)) (by first | (simp [go_sem]; done)))
    exact bodyPost_ret (v := .tuple #[.agg #[.int .i64 (((0, 0, 20) : Int × Int × Int).1), .int .i64 (((0, 0, 20) : Int × Int × Int).2.1)], .int .i64 (((0, 0, 20) : Int × Int × Int).2.2)]) (by simp [results, Tryz.results81, go_sem, r01, r11]) rfl ⟨rfl, by (repeat (first | with_reducible exact Below.refl _ _ | with_reducible assumption | refine Below.alloc ?_ (by (try simp); try omega) _ | refine Below.setCell ?_ (by (try simp); try omega) _ | refine below_drewN ?_ _ | refine Below.drew ?_ | (with_reducible refine Below.trans ?_ (Below.mono (by assumption) (by (try simp); try omega)))))⟩

theorem sqr_pow (a b : Int) : sSqrR a b = sPowR a b 2 := by
  unfold sSqrR sPowR
  by_cases k : ckS a b = 0
  · have vk := valS k
    obtain ⟨m0, m1, m2⟩ := magR_bd vk.1 vk.2.1 vk.2.2
    rw [if_pos k, if_pos k, if_neg (by omega), if_neg (by omega), if_pos (by omega)]
    rw [mulR_in _ (by omega) (by omega) (by omega) (by omega), mulR_in _ (by omega) (by omega) (by omega) (by omega)]
    have p2 : ∀ x : Int, x ^ 2 = x * x := fun x => by rw [Int.pow_succ, Int.pow_succ, Int.pow_zero, Int.one_mul]
    unfold powR
    rw [show ((2 : Int)).toNat = 2 from rfl, p2, p2, show (4294967296 : Int) ^ (2 - 1) = 4294967296 from rfl]
  · rw [if_neg k, if_neg k]

theorem rSqr_any (a b : Int) (w : World) :
    Calls Tryz.prog 58 #[.agg #[.int .i64 a, .int .i64 b]] w fun e w' => e = .returned (.tuple #[.agg #[.int .i64 (sSqrR a b).1, .int .i64 (sSqrR a b).2.1], .int .i64 (sSqrR a b).2.2]) ∧ Below w.heap.size w w' := by
  have hp := fun w => rPow_any a b 2 w
  rw [← sqr_pow] at hp
  generalize sSqrR a b = m at *
  go_enter Tryz.func58, Tryz.ntmps58
  go_wp2_with (go_at_call 81; (with_reducible refine (hp _).mono ?_); rintro e w1 ⟨rfl, hb1⟩; (with_reducible (first | (replace hb1 := undrewW hb1) | skip)); have hz1 : w.heap.size + 1 < w1.heap.size := (by have := hb1.size; (try simp at this); omega); have a01 : w1.cell? ⟨w.heap.size, 0, none⟩ = some (.int .i64 a) := bkeep hb1 (by first | (simp [go_sem]; done)); have a11 : w1.cell? ⟨w.heap.size, 1, none⟩ = some (.int .i64 b) := bkeep hb1 (by first | (simp [go_sem]; done)); have r01 : w1.cell? ⟨w.heap.size + 1, 0, none⟩ = some (.int .i64 0) := bkeep hb1 (by first | (simp [go_sem]; done)); have r11 : w1.cell? ⟨w.heap.size + 1, 1, none⟩ = some (.int .i64 0) := bkeep hb1 (by first | (simp [go_sem]; done)); have z01 : w1.frozen? ⟨w.heap.size + 1, 0, none⟩ = false := bfrz hb1 (by first | omega | (simp; done) | (simp; omega)) (by first | (simp [go_sem]; done)); have z11 : w1.frozen? ⟨w.heap.size + 1, 1, none⟩ = false := bfrz hb1 (by first | omega | (simp; done) | (simp; omega)) (by first | (simp [go_sem]; done)))
  exact bodyPost_ret (v := .tuple #[.agg #[.int .i64 (m.1), .int .i64 (m.2.1)], .int .i64 (m.2.2)]) (by simp [results, Tryz.results58, go_sem, r01, r11]) rfl ⟨rfl, by (repeat (first | with_reducible exact Below.refl _ _ | with_reducible assumption | refine Below.alloc ?_ (by (try simp); try omega) _ | refine Below.setCell ?_ (by (try simp); try omega) _ | refine below_drewN ?_ _ | refine Below.drew ?_ | (with_reducible refine Below.trans ?_ (Below.mono (by assumption) (by (try simp); try omega)))))⟩
end Go.Proofs.YtnfapdmbkpkkdaaGreat
