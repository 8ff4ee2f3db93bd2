/-
  Walks of package long: Parse.
-/
import Derived.Test.YthhbnhdejbpjiaaDoorLgZ
import Derived.Laws.DeepStrings4
import Derived.Lib.Strings
namespace Go.Proofs.YthhbnhdejbpjiaaDoor
open Go.RowKit

theorem extract_bytes (l : List UInt8) (a b : Nat) : (⟨⟨l⟩⟩ : ByteArray).extract a b = ⟨⟨(l.drop a).take (b - a)⟩⟩ := by
  rw [ByteArray.extract_mk]
theorem bytes_list (l : List UInt8) : (⟨⟨l⟩⟩ : ByteArray).toList = l := by rw [Lib.toList_data]
theorem pow9_10 (k : Nat) : (10 : Int) ^ (9 * k) = 1000000000 ^ k := by rw [Int.pow_mul]; rfl
/-- One piece of nine characters more. -/
theorem piece {T : List UInt8} {D : List Int} {m a : Nat} (hm : m ≤ T.length) (ha : a ≤ m) (hk : T.length - m = 9 * D.length) (hv : vl D = dn (T.drop m)) : vl (D ++ [dn ((T.drop a).take (m - a))]) = dn (T.drop a) := by
  have e : T.drop a = (T.drop a).take (m - a) ++ T.drop m := by
    have := (List.take_append_drop (m - a) (T.drop a)).symm
    rwa [List.drop_drop, show a + (m - a) = m by omega] at this
  have e2 : dn (T.drop a) = dn ((T.drop a).take (m - a)) * 10 ^ (T.drop m).length + dn (T.drop m) := by rw [← dn_append, ← e]
  rw [e2, List.length_drop, hk, pow9_10]
  show val _ _ = _
  rw [val_append, show val 1000000000 D = vl D from rfl, hv]
  simp only [val]
  generalize (1000000000 : Int) ^ D.length = P
  grind
theorem piece_facts {T : List UInt8} {m a : Nat} (hT : isPos T = true) (hm : m ≤ T.length) (ha : a ≤ m) (h9 : m - a ≤ 9) (h0 : 0 < m) :
    (∀ c ∈ (T.drop a).take (m - a), isd c) ∧ ((T.drop a).take (m - a)).length ≤ 9 ∧ 0 ≤ dn ((T.drop a).take (m - a)) ∧ dn ((T.drop a).take (m - a)) < 1000000000 ∧ (a = 0 → dn ((T.drop a).take (m - a)) ≠ 0) := by
  obtain ⟨c, t, rfl, hc, c0, ht, hall⟩ := isPos_true hT
  have h1 : ∀ d ∈ ((c :: t).drop a).take (m - a), isd d := fun d hd => hall d (List.mem_of_mem_drop (List.mem_of_mem_take hd))
  have hl : (((c :: t).drop a).take (m - a)).length ≤ 9 := by simp; omega
  have hb := dn_bounds h1
  have hp := pow10_le hl
  refine ⟨h1, hl, hb.1, by omega, fun h => ?_⟩
  subst h
  obtain ⟨j, hj⟩ : ∃ j, m - 0 = j + 1 := ⟨m - 1, by omega⟩
  rw [hj, List.drop_zero, List.take_succ_cons]
  have := dn_pos (l := t.take j) (fun d hd => ht d (List.mem_of_mem_take hd)) hc c0
  omega
set_option maxHeartbeats 1000000 in
theorem parseN_no (T : List UInt8) (w : World) (hl : T.length ≤ 100000) (hp : isPos T = false) :
    Calls Tryd.prog 10 #[.string ⟨⟨45 :: T⟩⟩] w fun e w' => e = .returned (.tuple #[noL, .int .i64 5]) ∧ Below w.heap.size w w' := by
  have hpos := fun w => isPositive_any T w (by omega)
  rw [hp] at hpos
  clear hp
  have hsz : (⟨⟨45 :: T⟩⟩ : ByteArray).size = T.length + 1 := rfl
  have hb0 : ∀ h : 0 < (⟨⟨45 :: T⟩⟩ : ByteArray).size, ((⟨⟨45 :: T⟩⟩ : ByteArray)[0]'h).toNat = 45 := fun h => rfl
  have hex : (⟨⟨45 :: T⟩⟩ : ByteArray).extract 1 (T.length + 1) = ⟨⟨T⟩⟩ := by rw [extract_bytes]; simp
  have hq : ((⟨⟨45 :: T⟩⟩ : ByteArray).toList == [48]) = false := by rw [bytes_list]; rfl
  generalize (⟨⟨45 :: T⟩⟩ : ByteArray) = S at *
  go_enter Tryd.func10, Tryd.ntmps10
  go_wp2_with (go_at_call 34; refine (hpos _).mono ?_; rintro e w1 ⟨rfl, rfl⟩)
  refine bodyPost_ret (v := .tuple #[.agg #[.bool false, .slice none 0 0], .int .i64 5]) (by simp [results, Tryd.results10, go_sem]) rfl ⟨rfl, by (repeat (first | with_reducible exact Below.refl _ _ | with_reducible assumption | refine Below.alloc ?_ (by (try simp); try omega) _ | refine Below.setCell ?_ (by (try simp); try omega) _ | refine below_drewN ?_ _ | refine Below.drew ?_ | (with_reducible refine Below.trans ?_ (Below.mono (by assumption) (by (try simp); try omega)))))⟩
set_option maxHeartbeats 1000000 in
theorem parseN_big (T : List UInt8) (w : World) (hl : T.length ≤ 100000) (hp : isPos T = true) (hbg : 5400 < T.length) :
    Calls Tryd.prog 10 #[.string ⟨⟨45 :: T⟩⟩] w fun e w' => e = .returned (.tuple #[noL, .int .i64 6]) ∧ Below w.heap.size w w' := by
  have hpos := fun w => isPositive_any T w (by omega)
  rw [hp] at hpos
  clear hp
  have hsz : (⟨⟨45 :: T⟩⟩ : ByteArray).size = T.length + 1 := rfl
  have hb0 : ∀ h : 0 < (⟨⟨45 :: T⟩⟩ : ByteArray).size, ((⟨⟨45 :: T⟩⟩ : ByteArray)[0]'h).toNat = 45 := fun h => rfl
  have hex : (⟨⟨45 :: T⟩⟩ : ByteArray).extract 1 (T.length + 1) = ⟨⟨T⟩⟩ := by rw [extract_bytes]; simp
  have hq : ((⟨⟨45 :: T⟩⟩ : ByteArray).toList == [48]) = false := by rw [bytes_list]; rfl
  generalize (⟨⟨45 :: T⟩⟩ : ByteArray) = S at *
  go_enter Tryd.func10, Tryd.ntmps10
  go_wp2_with (go_at_call 34; refine (hpos _).mono ?_; rintro e w1 ⟨rfl, rfl⟩)
  refine bodyPost_ret (v := .tuple #[.agg #[.bool false, .slice none 0 0], .int .i64 6]) (by simp [results, Tryd.results10, go_sem]) rfl ⟨rfl, by (repeat (first | with_reducible exact Below.refl _ _ | with_reducible assumption | refine Below.alloc ?_ (by (try simp); try omega) _ | refine Below.setCell ?_ (by (try simp); try omega) _ | refine below_drewN ?_ _ | refine Below.drew ?_ | (with_reducible refine Below.trans ?_ (Below.mono (by assumption) (by (try simp); try omega)))))⟩
set_option maxHeartbeats 1000000 in
theorem parseP_no (c : UInt8) (t : List UInt8) (w : World) (hc : c.toNat ≠ 45) (h48 : c :: t ≠ [48]) (hl : (c :: t).length ≤ 100000) (hp : isPos (c :: t) = false) :
    Calls Tryd.prog 10 #[.string ⟨⟨c :: t⟩⟩] w fun e w' => e = .returned (.tuple #[noL, .int .i64 5]) ∧ Below w.heap.size w w' := by
  have hpos := fun w => isPositive_any (c :: t) w (by omega)
  rw [hp] at hpos
  clear hp
  have hb0 : ∀ h : 0 < (⟨⟨c :: t⟩⟩ : ByteArray).size, ((⟨⟨c :: t⟩⟩ : ByteArray)[0]'h).toNat = c.toNat := fun h => rfl
  have hc45 : ((c.toNat : Int) == 45) = false := by simp; omega
  have hq : ((⟨⟨c :: t⟩⟩ : ByteArray).toList == [48]) = false := by rw [bytes_list]; simpa using h48
  have hT0 : 0 < (c :: t).length := by simp
  clear h48
  generalize c.toNat = cn at *
  generalize c :: t = T at *
  have hsz : (⟨⟨T⟩⟩ : ByteArray).size = T.length := rfl
  generalize (⟨⟨T⟩⟩ : ByteArray) = S at *
  go_enter Tryd.func10, Tryd.ntmps10
  go_wp2_with (go_at_call 34; refine (hpos _).mono ?_; rintro e w1 ⟨rfl, rfl⟩)
  refine bodyPost_ret (v := .tuple #[.agg #[.bool false, .slice none 0 0], .int .i64 5]) (by simp [results, Tryd.results10, go_sem]) rfl ⟨rfl, by (repeat (first | with_reducible exact Below.refl _ _ | with_reducible assumption | refine Below.alloc ?_ (by (try simp); try omega) _ | refine Below.setCell ?_ (by (try simp); try omega) _ | refine below_drewN ?_ _ | refine Below.drew ?_ | (with_reducible refine Below.trans ?_ (Below.mono (by assumption) (by (try simp); try omega)))))⟩
set_option maxHeartbeats 1000000 in
theorem parseP_big (c : UInt8) (t : List UInt8) (w : World) (hc : c.toNat ≠ 45) (h48 : c :: t ≠ [48]) (hl : (c :: t).length ≤ 100000) (hp : isPos (c :: t) = true) (hbg : 5400 < (c :: t).length) :
    Calls Tryd.prog 10 #[.string ⟨⟨c :: t⟩⟩] w fun e w' => e = .returned (.tuple #[noL, .int .i64 6]) ∧ Below w.heap.size w w' := by
  have hpos := fun w => isPositive_any (c :: t) w (by omega)
  rw [hp] at hpos
  clear hp
  have hb0 : ∀ h : 0 < (⟨⟨c :: t⟩⟩ : ByteArray).size, ((⟨⟨c :: t⟩⟩ : ByteArray)[0]'h).toNat = c.toNat := fun h => rfl
  have hc45 : ((c.toNat : Int) == 45) = false := by simp; omega
  have hq : ((⟨⟨c :: t⟩⟩ : ByteArray).toList == [48]) = false := by rw [bytes_list]; simpa using h48
  have hT0 : 0 < (c :: t).length := by simp
  clear h48
  generalize c.toNat = cn at *
  generalize c :: t = T at *
  have hsz : (⟨⟨T⟩⟩ : ByteArray).size = T.length := rfl
  generalize (⟨⟨T⟩⟩ : ByteArray) = S at *
  go_enter Tryd.func10, Tryd.ntmps10
  go_wp2_with (go_at_call 34; refine (hpos _).mono ?_; rintro e w1 ⟨rfl, rfl⟩)
  refine bodyPost_ret (v := .tuple #[.agg #[.bool false, .slice none 0 0], .int .i64 6]) (by simp [results, Tryd.results10, go_sem]) rfl ⟨rfl, by (repeat (first | with_reducible exact Below.refl _ _ | with_reducible assumption | refine Below.alloc ?_ (by (try simp); try omega) _ | refine Below.setCell ?_ (by (try simp); try omega) _ | refine below_drewN ?_ _ | refine Below.drew ?_ | (with_reducible refine Below.trans ?_ (Below.mono (by assumption) (by (try simp); try omega)))))⟩
set_option maxRecDepth 100000 in
set_option maxHeartbeats 2000000 in
theorem parseN_ok (T : List UInt8) (z : Int) (w : World) (hbg : T.length ≤ 5400) (hp : isPos T = true) (hz : z = if true then -(dn T) else dn T) :
    Calls Tryd.prog 10 #[.string ⟨⟨45 :: T⟩⟩] w fun e w' => RL z e w' ∧ Below w.heap.size w w' := by
  obtain ⟨i0, hi, hz0, hz1, hz2⟩ := info_parts Tryd.infoInt
  have bR := Bx.new w (.bool false) (.slice none 0 0) 25
  have a1 := Below.alloc (Below.refl w.heap.size w) (Nat.le_refl _) (.cells #[.bool false, .slice none 0 0] 25)
  have hws : (w.alloc (.cells #[.bool false, .slice none 0 0] 25)).heap.size = w.heap.size + 1 := by simp
  have hpos := fun w => isPositive_any T w (by omega)
  rw [hp] at hpos
  have hpc := fun (m a : Nat) => piece_facts (T := T) (m := m) (a := a) hp
  have hpv := fun (D : List Int) (m a : Nat) => piece (T := T) (D := D) (m := m) (a := a)
  have hex2 : ∀ a b : Nat, (⟨⟨T⟩⟩ : ByteArray).extract a b = ⟨⟨(T.drop a).take (b - a)⟩⟩ := fun a b => extract_bytes _ a b
  have hx0 : 0 ≤ dn T := by
    obtain ⟨_, _, _, _, _, _, hall⟩ := isPos_true hp
    exact (dn_bounds hall).1
  have hTl : 0 < T.length := by
    obtain ⟨_, _, h, _, _, _, _⟩ := isPos_true hp
    rw [h]; simp
  have hdrop : T.drop T.length = [] := List.drop_length
  clear hp
  have hsz : (⟨⟨45 :: T⟩⟩ : ByteArray).size = T.length + 1 := rfl
  have hb0 : ∀ h : 0 < (⟨⟨45 :: T⟩⟩ : ByteArray).size, ((⟨⟨45 :: T⟩⟩ : ByteArray)[0]'h).toNat = 45 := fun h => rfl
  have hex : (⟨⟨45 :: T⟩⟩ : ByteArray).extract 1 (T.length + 1) = ⟨⟨T⟩⟩ := by rw [extract_bytes]; simp
  have hq : ((⟨⟨45 :: T⟩⟩ : ByteArray).toList == [48]) = false := by rw [bytes_list]; rfl
  generalize (⟨⟨45 :: T⟩⟩ : ByteArray) = S at *
  have Hpc := Lib.hid hpc
  have Hpv := Lib.hid hpv
  have Hex := Lib.hid hex2
  clear hpc hpv hex2
  go_enter Tryd.func10, Tryd.ntmps10
  go_wp2_with (go_at_call 34; refine (hpos _).mono ?_; rintro e w1 ⟨rfl, rfl⟩)
  go_loopw [6, 7] (fun d e wr => ∃ (E : Int) (D : List Int), e = .int .i64 E ∧ Hid (E = (T.length : Int) - 9 * D.length) ∧ -9 < E ∧ E ≤ T.length ∧ D.length ≤ 600 ∧ Dg D ∧ Hid (vl D = dn (T.drop E.toNat)) ∧ (E ≤ 0 → el D (D.length - 1) ≠ 0) ∧ wr.ownsRow (w.heap.size + 1) 3 1 d D.length (D.map (Value.int .i64)) ∧ Below (w.heap.size + 1) (w.alloc (.cells #[.bool false, .slice none 0 0] 25)) wr)
    (fun _ e _ => (intOf e).toNat)
  case atStart => exact ⟨(T.length : Int), [], rfl, Lib.hid (by simp), by omega, Int.le_refl _, by simp, Dig.nil _, Lib.hid (by rw [Int.toNat_natCast, hdrop]; rfl), fun h => by omega, World.ownsRow_nil _ _ _ _, Below.refl _ _⟩
  case round =>
    obtain ⟨E, D, rfl, hE, hE9, hEn, hD6, dD, hv, hn, hown, hnx⟩ := hrel
    have bW := bR.keepB hnx (by omega)
    by_cases hE0 : E ≤ 0
    · have hls := Ls.own hown
      have hnr := hn hE0
      have e : vl D = dn T := by rw [hv.out, show E.toNat = 0 by omega, List.drop_zero]
      have hD : D = dg (dn T) := by rw [← e, dg_of dD (.inr hnr)]
      rw [hD] at hls
      have hlen : (dg (dn T)).length ≤ 100000 := by rw [← hD]; omega
      have hsg := signed_num true _ (dn T) z wr hx0 hls hlen hz
      have hB : Below w.heap.size w wr := a1.trans (hnx.mono (Nat.le_succ _))
      obtain ⟨pv, cv, hve, _, _⟩ := hls
      subst hve
      generalize hX : (dg (dn T)).length = nX at *
      clear hown hn hv hnx a1 bR hX hlen e hnr dD hE hi hz0 hz1 hz2 Hpc Hpv Hex hz
      go_wp2_with fail
      go_at_call 36
      refine hsg.mono ?_
      rintro e w2 ⟨hRL, hb2⟩
      have B2 := hB.trans (hb2.mono hB.size)
      have bR2 := bW.keep hb2
      have hz5 := bR2.lt
      have r0 := bR2.c0
      have r1 := bR2.c1
      have z0 := bR2.f 0
      have z1 := bR2.f 1
      clear hsg hb2 hB bW
      rcases hRL with ⟨hl, V, rfl, s, rfl, hs⟩ | ⟨hl, rfl⟩
      · obtain ⟨sg, hsg⟩ : ∃ sg, decide (z < 0) = sg := ⟨_, rfl⟩
        rw [hsg]
        replace hsg := Lib.hid hsg
        have hs' := hs
        obtain ⟨ps, cs, rfl, _, _⟩ := hs
        go_wp2
        refine bodyPost_ret (v := .tuple #[.agg #[.bool sg, .slice ps (dg (z.natAbs : Int)).length cs], .int .i64 0]) (by simp [results, Tryd.results10, go_sem, hz5, r0, r1, z0, z1]) rfl ⟨?_, by (repeat (first | with_reducible exact Below.refl _ _ | with_reducible assumption | refine Below.alloc ?_ (by (try simp); try omega) _ | refine Below.setCell ?_ (by (try simp); try omega) _ | refine below_drewN ?_ _ | refine Below.drew ?_ | (with_reducible refine Below.trans ?_ (Below.mono (by assumption) (by (try simp); try omega)))))⟩
        refine .inl ⟨hl, _, rfl, _, by rw [hsg.out], ?_⟩
        exact hs'.boxed bR2 (nb _) (ns _ _ _) _
      · go_wp2
        refine bodyPost_ret (v := .tuple #[.agg #[.bool false, .slice none 0 0], .int .i64 6]) (by simp [results, Tryd.results10, go_sem, hz5, r0, r1, z0, z1]) rfl ⟨.inr ⟨hl, rfl⟩, by (repeat (first | with_reducible exact Below.refl _ _ | with_reducible assumption | refine Below.alloc ?_ (by (try simp); try omega) _ | refine Below.setCell ?_ (by (try simp); try omega) _ | refine below_drewN ?_ _ | refine Below.drew ?_ | (with_reducible refine Below.trans ?_ (Below.mono (by assumption) (by (try simp); try omega)))))⟩
    · obtain ⟨m, rfl⟩ : ∃ m : Nat, E = m := ⟨E.toNat, by omega⟩
      have hm0 : 0 < m := by omega
      have hmT : m ≤ T.length := by omega
      rw [Int.toNat_natCast] at hv
      clear hn
      obtain ⟨p1, p2, p3, p4, p5⟩ := Hpc.out m (m - 9) hmT (by omega) (by omega) hm0
      have pv := Hpv.out D m (m - 9) hmT (by omega) (by have := hE.out; omega) hv.out
      have hx := Hex.out (m - 9) m
      have hnum := fun w => number_any ((T.drop (m - 9)).take (m - (m - 9))) w p2 p1
      generalize (T.drop (m - 9)).take (m - (m - 9)) = C at *
      obtain ⟨x, hx2⟩ : ∃ x, dn C = x := ⟨_, rfl⟩
      rw [hx2] at pv p3 p4 p5 hnum
      have hE' : Hid ((m : Int) - 9 = (T.length : Int) - 9 * ((D ++ [x]).length : Int)) := Lib.hid (by have := hE.out; simp; omega)
      have hD7 : (D ++ [x]).length ≤ 600 := by have := hE.out; simp; omega
      have pv' : Hid (vl (D ++ [x]) = dn (T.drop ((m : Int) - 9).toNat)) := Lib.hid (by rw [show ((m : Int) - 9).toNat = m - 9 by omega]; exact pv)
      have hlast : (m : Int) - 9 ≤ 0 → el (D ++ [x]) ((D ++ [x]).length - 1) ≠ 0 := fun h => by
        have e : el (D ++ [x]) ((D ++ [x]).length - 1) = x := by simp [el, List.getD_eq_getElem?_getD]
        rw [e]; exact p5 (by omega)
      have dD2 := dD.snoc p3 p4
      have hem : (max 0 ((m : Int) - 9)).toNat = m - 9 := by omega
      have Hem := Lib.hid hem
      have Hlast := Lib.hid hlast
      have Hx := Lib.hid hx
      clear hx2 p1 p2 p5 hv hE pv hlast hem hx Hpc Hpv Hex hpos bR hx0 hTl hdrop
      go_wp2_with fail
      rw [Hem.out, Hx.out]
      go_at_call 35
      refine (hnum _).mono ?_
      rintro e w5 ⟨rfl, rfl⟩
      go_wp2_with (at_builtin; refine wpList_append_own _ rfl _ _ 65 rfl (w.heap.size + 1) 3 i0 (.int .i64 0) 1 8 Tryd.underlying65 hi hz0 hz1 hz2 rfl (by decide) _ _ _ rfl (hown.alloc _) ⟨wr.heap.size, 0, none⟩ 1 1 [.int .i64 x] rfl rfl (one_at _ _ _) (one_cell _ _) (by unfold maxLen; omega) (by omega) (by have := hnx.size; simp at this ⊢; omega) ?_)
      intro v' w6 hown' hgrow _
      have hb := (hnx.alloc (by have := hnx.size; simpa using this) (.cells #[.int .i64 x] 3)).grown hgrow (by have := hnx.size; simp at this ⊢; omega) (fun k hk => (hown.lt k hk).1)
      have hown2 : w6.ownsRow (w.heap.size + 1) 3 1 v' (D ++ [x]).length ((D ++ [x]).map (Value.int .i64)) := by rw [List.length_append, List.map_append]; exact hown'
      clear hown hown' hgrow hnx bW
      generalize D ++ [x] = D2 at *
      go_wp2
      go_roundw
      case rel => exact ⟨(m : Int) - 9, D2, rfl, hE', by omega, by omega, hD7, dD2, pv', Hlast.out, hown2, hb⟩
      case measure => simp [intOf]; omega
set_option maxRecDepth 100000 in
set_option maxHeartbeats 2000000 in
theorem parseP_ok (c : UInt8) (t : List UInt8) (z : Int) (w : World) (hc : c.toNat ≠ 45) (h48 : c :: t ≠ [48]) (hbg : (c :: t).length ≤ 5400) (hp : isPos (c :: t) = true) (hz : z = if false then -(dn (c :: t)) else dn (c :: t)) :
    Calls Tryd.prog 10 #[.string ⟨⟨c :: t⟩⟩] w fun e w' => RL z e w' ∧ Below w.heap.size w w' := by
  obtain ⟨i0, hi, hz0, hz1, hz2⟩ := info_parts Tryd.infoInt
  have bR := Bx.new w (.bool false) (.slice none 0 0) 25
  have a1 := Below.alloc (Below.refl w.heap.size w) (Nat.le_refl _) (.cells #[.bool false, .slice none 0 0] 25)
  have hws : (w.alloc (.cells #[.bool false, .slice none 0 0] 25)).heap.size = w.heap.size + 1 := by simp
  have hpos := fun w => isPositive_any (c :: t) w (by omega)
  rw [hp] at hpos
  have hpc := fun (m a : Nat) => piece_facts (T := (c :: t)) (m := m) (a := a) hp
  have hpv := fun (D : List Int) (m a : Nat) => piece (T := (c :: t)) (D := D) (m := m) (a := a)
  have hex2 : ∀ a b : Nat, (⟨⟨(c :: t)⟩⟩ : ByteArray).extract a b = ⟨⟨((c :: t).drop a).take (b - a)⟩⟩ := fun a b => extract_bytes _ a b
  have hx0 : 0 ≤ dn (c :: t) := by
    obtain ⟨_, _, _, _, _, _, hall⟩ := isPos_true hp
    exact (dn_bounds hall).1
  have hTl : 0 < (c :: t).length := by
    obtain ⟨_, _, h, _, _, _, _⟩ := isPos_true hp
    rw [h]; simp
  have hdrop : (c :: t).drop (c :: t).length = [] := List.drop_length
  clear hp
  have hb0 : ∀ h : 0 < (⟨⟨c :: t⟩⟩ : ByteArray).size, ((⟨⟨c :: t⟩⟩ : ByteArray)[0]'h).toNat = c.toNat := fun h => rfl
  have hc45 : ((c.toNat : Int) == 45) = false := by simp; omega
  have hq : ((⟨⟨c :: t⟩⟩ : ByteArray).toList == [48]) = false := by rw [bytes_list]; simpa using h48
  have hT0 : 0 < (c :: t).length := by simp
  clear h48
  generalize c.toNat = cn at *
  generalize c :: t = T at *
  have hsz : (⟨⟨T⟩⟩ : ByteArray).size = T.length := rfl
  generalize (⟨⟨T⟩⟩ : ByteArray) = S at *
  have Hpc := Lib.hid hpc
  have Hpv := Lib.hid hpv
  have Hex := Lib.hid hex2
  clear hpc hpv hex2
  go_enter Tryd.func10, Tryd.ntmps10
  go_wp2_with (go_at_call 34; refine (hpos _).mono ?_; rintro e w1 ⟨rfl, rfl⟩)
  go_loopw [6, 7] (fun d e wr => ∃ (E : Int) (D : List Int), e = .int .i64 E ∧ Hid (E = (T.length : Int) - 9 * D.length) ∧ -9 < E ∧ E ≤ T.length ∧ D.length ≤ 600 ∧ Dg D ∧ Hid (vl D = dn (T.drop E.toNat)) ∧ (E ≤ 0 → el D (D.length - 1) ≠ 0) ∧ wr.ownsRow (w.heap.size + 1) 3 1 d D.length (D.map (Value.int .i64)) ∧ Below (w.heap.size + 1) (w.alloc (.cells #[.bool false, .slice none 0 0] 25)) wr)
    (fun _ e _ => (intOf e).toNat)
  case atStart => exact ⟨(T.length : Int), [], rfl, Lib.hid (by simp), by omega, Int.le_refl _, by simp, Dig.nil _, Lib.hid (by rw [Int.toNat_natCast, hdrop]; rfl), fun h => by omega, World.ownsRow_nil _ _ _ _, Below.refl _ _⟩
  case round =>
    obtain ⟨E, D, rfl, hE, hE9, hEn, hD6, dD, hv, hn, hown, hnx⟩ := hrel
    have bW := bR.keepB hnx (by omega)
    by_cases hE0 : E ≤ 0
    · have hls := Ls.own hown
      have hnr := hn hE0
      have e : vl D = dn T := by rw [hv.out, show E.toNat = 0 by omega, List.drop_zero]
      have hD : D = dg (dn T) := by rw [← e, dg_of dD (.inr hnr)]
      rw [hD] at hls
      have hlen : (dg (dn T)).length ≤ 100000 := by rw [← hD]; omega
      have hsg := signed_num false _ (dn T) z wr hx0 hls hlen hz
      have hB : Below w.heap.size w wr := a1.trans (hnx.mono (Nat.le_succ _))
      obtain ⟨pv, cv, hve, _, _⟩ := hls
      subst hve
      generalize hX : (dg (dn T)).length = nX at *
      clear hown hn hv hnx a1 bR hX hlen e hnr dD hE hi hz0 hz1 hz2 Hpc Hpv Hex hz
      go_wp2_with fail
      go_at_call 36
      refine hsg.mono ?_
      rintro e w2 ⟨hRL, hb2⟩
      have B2 := hB.trans (hb2.mono hB.size)
      have bR2 := bW.keep hb2
      have hz5 := bR2.lt
      have r0 := bR2.c0
      have r1 := bR2.c1
      have z0 := bR2.f 0
      have z1 := bR2.f 1
      clear hsg hb2 hB bW
      rcases hRL with ⟨hl, V, rfl, s, rfl, hs⟩ | ⟨hl, rfl⟩
      · obtain ⟨sg, hsg⟩ : ∃ sg, decide (z < 0) = sg := ⟨_, rfl⟩
        rw [hsg]
        replace hsg := Lib.hid hsg
        have hs' := hs
        obtain ⟨ps, cs, rfl, _, _⟩ := hs
        go_wp2
        refine bodyPost_ret (v := .tuple #[.agg #[.bool sg, .slice ps (dg (z.natAbs : Int)).length cs], .int .i64 0]) (by simp [results, Tryd.results10, go_sem, hz5, r0, r1, z0, z1]) rfl ⟨?_, by (repeat (first | with_reducible exact Below.refl _ _ | with_reducible assumption | refine Below.alloc ?_ (by (try simp); try omega) _ | refine Below.setCell ?_ (by (try simp); try omega) _ | refine below_drewN ?_ _ | refine Below.drew ?_ | (with_reducible refine Below.trans ?_ (Below.mono (by assumption) (by (try simp); try omega)))))⟩
        refine .inl ⟨hl, _, rfl, _, by rw [hsg.out], ?_⟩
        exact hs'.boxed bR2 (nb _) (ns _ _ _) _
      · go_wp2
        refine bodyPost_ret (v := .tuple #[.agg #[.bool false, .slice none 0 0], .int .i64 6]) (by simp [results, Tryd.results10, go_sem, hz5, r0, r1, z0, z1]) rfl ⟨.inr ⟨hl, rfl⟩, by (repeat (first | with_reducible exact Below.refl _ _ | with_reducible assumption | refine Below.alloc ?_ (by (try simp); try omega) _ | refine Below.setCell ?_ (by (try simp); try omega) _ | refine below_drewN ?_ _ | refine Below.drew ?_ | (with_reducible refine Below.trans ?_ (Below.mono (by assumption) (by (try simp); try omega)))))⟩
    · obtain ⟨m, rfl⟩ : ∃ m : Nat, E = m := ⟨E.toNat, by omega⟩
      have hm0 : 0 < m := by omega
      have hmT : m ≤ T.length := by omega
      rw [Int.toNat_natCast] at hv
      clear hn
      obtain ⟨p1, p2, p3, p4, p5⟩ := Hpc.out m (m - 9) hmT (by omega) (by omega) hm0
      have pv := Hpv.out D m (m - 9) hmT (by omega) (by have := hE.out; omega) hv.out
      have hx := Hex.out (m - 9) m
      have hnum := fun w => number_any ((T.drop (m - 9)).take (m - (m - 9))) w p2 p1
      generalize (T.drop (m - 9)).take (m - (m - 9)) = C at *
      obtain ⟨x, hx2⟩ : ∃ x, dn C = x := ⟨_, rfl⟩
      rw [hx2] at pv p3 p4 p5 hnum
      have hE' : Hid ((m : Int) - 9 = (T.length : Int) - 9 * ((D ++ [x]).length : Int)) := Lib.hid (by have := hE.out; simp; omega)
      have hD7 : (D ++ [x]).length ≤ 600 := by have := hE.out; simp; omega
      have pv' : Hid (vl (D ++ [x]) = dn (T.drop ((m : Int) - 9).toNat)) := Lib.hid (by rw [show ((m : Int) - 9).toNat = m - 9 by omega]; exact pv)
      have hlast : (m : Int) - 9 ≤ 0 → el (D ++ [x]) ((D ++ [x]).length - 1) ≠ 0 := fun h => by
        have e : el (D ++ [x]) ((D ++ [x]).length - 1) = x := by simp [el, List.getD_eq_getElem?_getD]
        rw [e]; exact p5 (by omega)
      have dD2 := dD.snoc p3 p4
      have hem : (max 0 ((m : Int) - 9)).toNat = m - 9 := by omega
      have Hem := Lib.hid hem
      have Hlast := Lib.hid hlast
      have Hx := Lib.hid hx
      clear hx2 p1 p2 p5 hv hE pv hlast hem hx Hpc Hpv Hex hpos bR hx0 hTl hdrop
      go_wp2_with fail
      rw [Hem.out, Hx.out]
      go_at_call 35
      refine (hnum _).mono ?_
      rintro e w5 ⟨rfl, rfl⟩
      go_wp2_with (at_builtin; refine wpList_append_own _ rfl _ _ 65 rfl (w.heap.size + 1) 3 i0 (.int .i64 0) 1 8 Tryd.underlying65 hi hz0 hz1 hz2 rfl (by decide) _ _ _ rfl (hown.alloc _) ⟨wr.heap.size, 0, none⟩ 1 1 [.int .i64 x] rfl rfl (one_at _ _ _) (one_cell _ _) (by unfold maxLen; omega) (by omega) (by have := hnx.size; simp at this ⊢; omega) ?_)
      intro v' w6 hown' hgrow _
      have hb := (hnx.alloc (by have := hnx.size; simpa using this) (.cells #[.int .i64 x] 3)).grown hgrow (by have := hnx.size; simp at this ⊢; omega) (fun k hk => (hown.lt k hk).1)
      have hown2 : w6.ownsRow (w.heap.size + 1) 3 1 v' (D ++ [x]).length ((D ++ [x]).map (Value.int .i64)) := by rw [List.length_append, List.map_append]; exact hown'
      clear hown hown' hgrow hnx bW
      generalize D ++ [x] = D2 at *
      go_wp2
      go_roundw
      case rel => exact ⟨(m : Int) - 9, D2, rfl, hE', by omega, by omega, hD7, dD2, pv', Hlast.out, hown2, hb⟩
      case measure => simp [intOf]; omega
end Go.Proofs.YthhbnhdejbpjiaaDoor
