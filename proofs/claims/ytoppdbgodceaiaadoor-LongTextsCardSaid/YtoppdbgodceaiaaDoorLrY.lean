/-
  The reference: Parse.
-/
import Derived.Test.YtoppdbgodceaiaaDoorLrW
namespace Go.Proofs.YtoppdbgodceaiaaDoor
open Go.RowKit

theorem pw10 (k : Nat) : (10 : Int) ^ k = 1000000000 ^ (k / 9) * 10 ^ (k % 9) := by
  have h : (10 : Int) ^ k = 10 ^ (9 * (k / 9) + k % 9) := by rw [Nat.div_add_mod]
  rw [h, Int.pow_add, pow9_10]
/-- One decimal digit more. -/
theorem rp_step (Q : List UInt8) (D : List Int) (k : Nat) (hQ : ∀ c ∈ Q, isd c) (hk : k < Q.length) (dD : Dg D) (hl : D.length = k / 9 + 1) (hv : vl D = dn (Q.drop (Q.length - k))) (o : Int) (ho : o = (((Q.getD (Q.length - 1 - k) 0).toNat : Int) - 48) * 10 ^ (k % 9)) :
    0 ≤ el D (k / 9) ∧ 0 ≤ o ∧ o < 1000000000 ∧ el D (k / 9) + o < 1000000000 ∧ vl (D.set (k / 9) (el D (k / 9) + o)) = dn (Q.drop (Q.length - (k + 1))) := by
  have hq : k / 9 < D.length := by omega
  have he := dD.el (by omega) (k / 9)
  obtain ⟨c, hc⟩ : ∃ c, Q.getD (Q.length - 1 - k) 0 = c := ⟨_, rfl⟩
  have hlt : Q.length - 1 - k < Q.length := by omega
  have hcm : c ∈ Q := by
    rw [← hc, List.getD_eq_getElem?_getD, List.getElem?_eq_getElem hlt]; exact List.getElem_mem hlt
  have hd := hQ c hcm
  unfold isd at hd
  rw [hc] at ho
  have e1 : Q.drop (Q.length - (k + 1)) = c :: Q.drop (Q.length - k) := by
    rw [show Q.length - (k + 1) = Q.length - 1 - k by omega, List.drop_eq_getElem_cons hlt, show Q.length - 1 - k + 1 = Q.length - k by omega]
    congr 1
    rw [← hc, List.getD_eq_getElem?_getD, List.getElem?_eq_getElem hlt]; rfl
  have e2 := dn_append [c] (Q.drop (Q.length - k))
  rw [List.singleton_append, ← e1, show dn [c] = (c.toNat : Int) - 48 by simp [dn], List.length_drop, show Q.length - (Q.length - k) = k by omega, pw10 k, ← hv] at e2
  have hb := (dn_bounds (l := Q.drop (Q.length - k)) (fun d hd => hQ d (List.mem_of_mem_drop hd))).2
  rw [← hv, List.length_drop, show Q.length - (Q.length - k) = k by omega, pw10 k] at hb
  have z1 := vl_set D (k / 9) 0 hq
  have z2 := vl_nonneg (show Dg (D.set (k / 9) 0) from dD.set _ (by omega) (by omega))
  have z3 := vl_set D (k / 9) (el D (k / 9) + o) hq
  rw [z3, e2]
  have p10 : (10 : Int) ^ (k % 9) ≤ 100000000 := by have := pow10_le (show k % 9 ≤ 8 by omega); omega
  have p0 : (0 : Int) < 10 ^ (k % 9) := Int.pow_pos (by omega)
  have q0 := pow9 (k / 9)
  generalize el D (k / 9) = e at *
  generalize (10 : Int) ^ (k % 9) = t at *
  generalize (1000000000 : Int) ^ (k / 9) = P at *
  have et : e < t := by
    have : P * e < P * t := by rw [z1] at z2; have : P * (0 - e) = -(P * e) := by grind
                               omega
    exact Int.lt_of_mul_lt_mul_left this (by omega)
  have o0 : 0 ≤ o := by rw [ho]; exact Int.mul_nonneg (by omega) (by omega)
  have o9 : o ≤ 9 * t := by rw [ho]; exact Int.mul_le_mul_of_nonneg_right (by omega) (by omega)
  refine ⟨he.1, o0, by omega, by omega, ?_⟩
  rw [ho]; grind
set_option maxRecDepth 100000 in
set_option maxHeartbeats 4000000 in
theorem rparse_neg (l : List UInt8) (w : World) (hQ : ∀ c ∈ l, isd c) (h0 : 0 < l.length) (hl : l.length ≤ 5400) (hp : isPos l = true) :
    Calls Tryd.prog 53 #[.string ⟨⟨45 :: l⟩⟩] w fun e w' => OkE (-(dn l)) 0 e w' ∧ Below w.heap.size w w' := by
  have hf := fun w => form_neg l w (by omega)
  rw [hp] at hf
  have hsS : (⟨⟨45 :: l⟩⟩ : ByteArray).size = l.length + 1 := rfl
  have hb0 : ∀ h : 0 < (⟨⟨45 :: l⟩⟩ : ByteArray).size, ((⟨⟨45 :: l⟩⟩ : ByteArray)[0]'h).toNat = 45 := fun h => rfl
  have hex : (⟨⟨45 :: l⟩⟩ : ByteArray).extract 1 (l.length + 1) = ⟨⟨l⟩⟩ := by rw [extract_bytes]; simp
  generalize (⟨⟨45 :: l⟩⟩ : ByteArray) = S at *
  obtain ⟨i0, hi, hz0, hz1, hz2⟩ := info_parts Tryd.infoInt
  have hsz : (⟨⟨l⟩⟩ : ByteArray).size = l.length := rfl
  have bR := Bx.new w (.bool false) (.slice none 0 0) 24
  have hB : Below w.heap.size w (w.alloc (.cells #[.bool false, .slice none 0 0] 24)) := by (repeat (first | with_reducible exact Below.refl _ _ | with_reducible assumption | refine Below.alloc ?_ (by (try simp); try omega) _ | refine Below.setCell ?_ (by (try simp); try omega) _ | refine below_drewN ?_ _ | refine Below.drew ?_ | (with_reducible refine Below.trans ?_ (Below.mono (by assumption) (by (try simp); try omega)))))
  have hws : (w.alloc (.cells #[.bool false, .slice none 0 0] 24)).heap.size = w.heap.size + 1 := by simp
  have Hs := Lib.hid (fun (k : Nat) (D : List Int) (hk : k < l.length) => rp_step l D k hQ hk)
  go_enter Tryd.func53, Tryd.ntmps53
  go_wp2_with (go_at_call 89; refine (hf _).mono ?_; rintro e w1 ⟨rfl, rfl⟩)
  generalize w.alloc (.cells #[.bool false, .slice none 0 0] 24) = w1 at *
  go_loopw [5, 6] (fun d i wr => ∃ (k : Nat) (D : List Int), i = .int .i64 k ∧ k ≤ l.length ∧ Hid (D.length = (k + 8) / 9) ∧ Dg D ∧ Hid (vl D = dn (l.drop (l.length - k))) ∧ wr.ownsRow (w.heap.size + 1) 3 1 d D.length (D.map (Value.int .i64)) ∧ Below (w.heap.size + 1) w1 wr)
    (fun _ i _ => l.length - (intOf i).toNat)
  case atStart => exact ⟨0, [], rfl, by omega, Lib.hid rfl, Dig.nil _, Lib.hid (by rw [Nat.sub_zero, List.drop_length]; rfl), World.ownsRow_nil _ _ _ _, by rw [← hws]; exact Below.refl _ _⟩
  case round =>
    obtain ⟨k, D, rfl, hk, hDl, dD, hv, hown, hx⟩ := hrel
    have hsx := hx.size
    rw [hws] at hsx
    by_cases hkl : k < l.length
    · have c1 : (k : Int) < (l.length : Int) := by omega
      obtain ⟨c, hc⟩ : ∃ c, (l.getD (l.length - 1 - k) 0).toNat = c := ⟨_, rfl⟩
      have hb' : ∀ h : l.length - 1 - k < (⟨⟨l⟩⟩ : ByteArray).size, ((⟨⟨l⟩⟩ : ByteArray)[l.length - 1 - k]'h).toNat = c := fun h => by rw [byte_at]; exact hc
      have hcd : 48 ≤ c ∧ c ≤ 57 := by
        have := hQ (l.getD (l.length - 1 - k) 0) (by rw [List.getD_eq_getElem?_getD, List.getElem?_eq_getElem (by omega)]; exact List.getElem_mem _)
        unfold isd at this
        rw [hc] at this
        exact this
      obtain ⟨q, hq⟩ : ∃ q, k / 9 = q := ⟨_, rfl⟩
      obtain ⟨r, hr⟩ : ∃ r, k % 9 = r := ⟨_, rfl⟩
      have hkd : (k : Int) / 9 = (q : Int) := by omega
      have hkm : (k : Int) % 9 = (r : Int) := by omega
      have r9 : r < 9 := by omega
      have H1 := fun D h => Hs.out k D hkl h
      rw [hq, hr] at H1
      have HS := Lib.hid H1
      clear H1
      go_wp2
      go_loopw [7, 8] (fun o j wz => ∃ (m : Nat) (u : Int), o = .int .i64 u ∧ j = .int .i64 m ∧ m ≤ r ∧ Hid (u = ((c : Int) - 48) * 10 ^ m) ∧ 0 ≤ u ∧ u < 1000000000 ∧ wr = wz)
        (fun _ j _ => r - (intOf j).toNat)
      case atStart => exact ⟨0, (c : Int) - 48, rfl, rfl, by omega, Lib.hid (by simp), by omega, by omega, rfl⟩
      case round =>
        obtain ⟨m, u, rfl, rfl, hm, hu, u0, u1, rfl⟩ := hrel
        by_cases hmr : m < r
        · have c2 : (m : Int) < (r : Int) := by omega
          have hu2 : 10 * u = ((c : Int) - 48) * 10 ^ (m + 1) := by rw [hu.out, Int.pow_succ]; grind
          have hp8 := pow10_le (show m + 1 ≤ 8 by omega)
          have hp0 : (0 : Int) < 10 ^ (m + 1) := Int.pow_pos (by omega)
          have b2 : 10 * u < 1000000000 := by
            have := Int.mul_le_mul_of_nonneg_right (show (c : Int) - 48 ≤ 9 by omega) (show (0 : Int) ≤ 10 ^ (m + 1) by omega)
            omega
          have HU := Lib.hid hu2
          clear hu2 hp8 hp0 hu hb' hc hown hx
          go_wp2
          go_roundw
          case rel => exact ⟨m + 1, 10 * u, rfl, by simp, by omega, HU, by omega, b2, trivial⟩
          case measure => simp [intOf]; omega
        · obtain rfl : m = r := by omega
          have c2 : ¬ (m : Int) < (m : Int) := by omega
          have HO : Hid (u = (((l.getD (l.length - 1 - k) 0).toNat : Int) - 48) * 10 ^ m) := Lib.hid (by rw [hu.out, hc])
          clear hu hb' hc hm hmr
          by_cases hm0 : m = 0
          · subst hm0
            go_wp2_with (at_builtin; refine wpList_append_own _ rfl _ _ 22 rfl (w.heap.size + 1) 3 i0 (.int .i64 0) 1 8 Tryd.underlying22 hi hz0 hz1 hz2 rfl (by decide) _ _ _ rfl (hown.alloc _) ⟨wr.heap.size, 0, none⟩ 1 1 [.int .i64 0] rfl rfl (one_at _ _ _) (one_cell _ _) (by have := hDl.out; unfold maxLen; omega) (by have := hDl.out; omega) (by simp only [World.size_alloc]; omega) ?_)
            intro v' w5 hown' hgrow _
            have hx5 := (hx.alloc (by omega) (.cells #[.int .i64 0] 3)).grown hgrow (by simp only [World.size_alloc]; omega) (fun k hk => (hown.lt k hk).1)
            have own5 : w5.ownsRow (w.heap.size + 1) 3 1 v' (D ++ [0]).length ((D ++ [0]).map (Value.int .i64)) := by rw [List.length_append, List.map_append]; exact hown'
            have hv5 : Hid (vl (D ++ [0]) = dn (l.drop (l.length - k))) := Lib.hid (by rw [← hv.out]; exact vl_zeros D 1)
            have dD5 : Dg (D ++ [0]) := dD.snoc (by omega) (by omega)
            have hl5 : (D ++ [0]).length = q + 1 := by have := hDl.out; rw [List.length_append, List.length_singleton]; omega
            clear hown hx hgrow hown' hv dD hDl
            generalize D ++ [0] = E at *
            obtain ⟨s1, s2, s3, s4, s5⟩ := HS.out E dD5 hl5 hv5.out u HO.out
            obtain ⟨g, cap, rfl⟩ := own_head own5 (by omega)
            have hce := own5.cellAt q (by omega)
            have ee : (E.map (Value.int .i64))[q]? = some (.int .i64 (el E q)) := by
              rw [List.getElem?_map, el_eq, List.getD_eq_getElem?_getD, List.getElem?_eq_getElem (by omega)]; rfl
            rw [ee] at hce
            have hfz := own5.frozenAt q
            have hge := (own_cap own5).2
            have hlt5 : g < w5.heap.size := World.block_lt_of_cell? w5 _ hce
            have dD6 := dD5.set q (d := el E q + u) (by omega) s4
            obtain ⟨x, hxe⟩ : ∃ x, el E q = x := ⟨_, rfl⟩
            rw [hxe] at hce s1 s4 s5 dD6
            have own6 := (own5.stored q (.int .i64 (x + u))).1
            rw [← List.map_set] at own6
            have hl6 : (E.set q (x + u)).length = E.length := List.length_set
            have Hl6 : Hid ((E.set q (x + u)).length = (k + 1 + 8) / 9) := Lib.hid (by rw [hl6]; omega)
            have S5 := Lib.hid s5
            have cqE : (q : Int) < (E.length : Int) := by omega
            have own7 : (w5.setCell ⟨g, q, none⟩ (.int .i64 (x + u))).ownsRow (w.heap.size + 1) 3 1 (.slice (some ⟨g, 0, none⟩) E.length cap) (E.set q (x + u)).length ((E.set q (x + u)).map (Value.int .i64)) := by rw [hl6]; exact own6
            clear s5 hxe ee own5 own6 hl6 hv5 dD5 HS HO Hs hQ
            go_wp2
            go_roundw
            case rel => exact ⟨k + 1, E.set q (x + u), by simp, by omega, Hl6, dD6, S5, own7, hx5.setCell hge _⟩
            case measure => simp [intOf]; omega
          · have hm1 : ((m : Int) == 0) = false := by rw [beq_eq_false_iff_ne]; omega
            have hl5 : D.length = q + 1 := by have := hDl.out; omega
            have own5 := hown
            have hv5 := hv
            have dD5 := dD
            have hx5 := hx
            clear hown hx hv dD hDl
            generalize D = E at *
            generalize wr = w5 at *
            obtain ⟨s1, s2, s3, s4, s5⟩ := HS.out E dD5 hl5 hv5.out u HO.out
            obtain ⟨g, cap, rfl⟩ := own_head own5 (by omega)
            have hce := own5.cellAt q (by omega)
            have ee : (E.map (Value.int .i64))[q]? = some (.int .i64 (el E q)) := by
              rw [List.getElem?_map, el_eq, List.getD_eq_getElem?_getD, List.getElem?_eq_getElem (by omega)]; rfl
            rw [ee] at hce
            have hfz := own5.frozenAt q
            have hge := (own_cap own5).2
            have hlt5 : g < w5.heap.size := World.block_lt_of_cell? w5 _ hce
            have dD6 := dD5.set q (d := el E q + u) (by omega) s4
            obtain ⟨x, hxe⟩ : ∃ x, el E q = x := ⟨_, rfl⟩
            rw [hxe] at hce s1 s4 s5 dD6
            have own6 := (own5.stored q (.int .i64 (x + u))).1
            rw [← List.map_set] at own6
            have hl6 : (E.set q (x + u)).length = E.length := List.length_set
            have Hl6 : Hid ((E.set q (x + u)).length = (k + 1 + 8) / 9) := Lib.hid (by rw [hl6]; omega)
            have S5 := Lib.hid s5
            have cqE : (q : Int) < (E.length : Int) := by omega
            have own7 : (w5.setCell ⟨g, q, none⟩ (.int .i64 (x + u))).ownsRow (w.heap.size + 1) 3 1 (.slice (some ⟨g, 0, none⟩) E.length cap) (E.set q (x + u)).length ((E.set q (x + u)).map (Value.int .i64)) := by rw [hl6]; exact own6
            clear s5 hxe ee own5 own6 hl6 hv5 dD5 HS HO Hs hQ
            go_wp2
            go_roundw
            case rel => exact ⟨k + 1, E.set q (x + u), by simp, by omega, Hl6, dD6, S5, own7, hx5.setCell hge _⟩
            case measure => simp [intOf]; omega
    · have c1 : ¬ (k : Int) < (l.length : Int) := by omega
      obtain rfl : k = l.length := by omega
      have hls := Ls.own hown
      have hlen : D.length ≤ 100000 := by have := hDl.out; omega
      have e : vl D = dn l := by have := hv.out; rwa [Nat.sub_self, List.drop_zero] at this
      obtain ⟨pv, cv, rfl⟩ := own_slice hown
      have hmk := made_any true _ D wr hls dD hlen
      rw [e] at hmk
      have bR1 := bR.keepB hx (by omega)
      have hB1 := hB.trans (hx.mono (by omega))
      generalize D.length = nD at *
      clear hown hls e hv dD hDl hlen hx bR hB Hs hQ
      go_wp2_with fail
      go_at_call 63
      refine hmk.mono ?_
      rintro e w3 ⟨⟨p, a, n, c, rfl, L⟩, hb⟩
      replace L : Lg w3 _ (-(dn l)) := L
      replace bR1 := bR1.keep hb
      replace hB1 := hB1.trans (hb.mono hB1.size)
      have r0 := bR1.c0
      have r1 := bR1.c1
      have z0 := bR1.f 0
      have z1 := bR1.f 1
      have lR := bR1.lt
      have hL := Lib.hid (L.put bR1 p a n c)
      clear L hmk hb
      go_wp2
      refine bodyPost_ret (v := .tuple #[.agg #[.bool p, .slice a n c], .int .i64 0]) (by simp [results, Tryd.results53, go_sem, r0, r1, z0, z1, lR]) rfl ⟨⟨_, _, _, _, rfl, hL.out⟩, by (repeat (first | with_reducible exact Below.refl _ _ | with_reducible assumption | refine Below.alloc ?_ (by (try simp); try omega) _ | refine Below.setCell ?_ (by (try simp); try omega) _ | refine below_drewN ?_ _ | refine Below.drew ?_ | (with_reducible refine Below.trans ?_ (Below.mono (by assumption) (by (try simp); try omega)))))⟩
set_option maxRecDepth 100000 in
set_option maxHeartbeats 4000000 in
theorem rparse_pos (l : List UInt8) (w : World) (hQ : ∀ c ∈ l, isd c) (h0 : 0 < l.length) (hl : l.length ≤ 5400) (hf : ∀ w, Calls Tryd.prog 89 #[.string ⟨⟨l⟩⟩] w fun e w' => e = .returned (.bool true) ∧ w = w') :
    Calls Tryd.prog 53 #[.string ⟨⟨l⟩⟩] w fun e w' => OkE (dn l) 0 e w' ∧ Below w.heap.size w w' := by
  obtain ⟨cn, hcn⟩ : ∃ cn, (l.getD 0 0).toNat = cn := ⟨_, rfl⟩
  have hb0 : ∀ h : 0 < (⟨⟨l⟩⟩ : ByteArray).size, ((⟨⟨l⟩⟩ : ByteArray)[0]'h).toNat = cn := fun h => by rw [byte_at]; exact hcn
  have hc45 : ((cn : Int) == 45) = false := by
    have := hQ (l.getD 0 0) (by rw [List.getD_eq_getElem?_getD, List.getElem?_eq_getElem h0]; exact List.getElem_mem h0)
    unfold isd at this
    rw [beq_eq_false_iff_ne]; omega
  clear hcn
  obtain ⟨i0, hi, hz0, hz1, hz2⟩ := info_parts Tryd.infoInt
  have hsz : (⟨⟨l⟩⟩ : ByteArray).size = l.length := rfl
  have bR := Bx.new w (.bool false) (.slice none 0 0) 24
  have hB : Below w.heap.size w (w.alloc (.cells #[.bool false, .slice none 0 0] 24)) := by (repeat (first | with_reducible exact Below.refl _ _ | with_reducible assumption | refine Below.alloc ?_ (by (try simp); try omega) _ | refine Below.setCell ?_ (by (try simp); try omega) _ | refine below_drewN ?_ _ | refine Below.drew ?_ | (with_reducible refine Below.trans ?_ (Below.mono (by assumption) (by (try simp); try omega)))))
  have hws : (w.alloc (.cells #[.bool false, .slice none 0 0] 24)).heap.size = w.heap.size + 1 := by simp
  have Hs := Lib.hid (fun (k : Nat) (D : List Int) (hk : k < l.length) => rp_step l D k hQ hk)
  go_enter Tryd.func53, Tryd.ntmps53
  go_wp2_with (go_at_call 89; refine (hf _).mono ?_; rintro e w1 ⟨rfl, rfl⟩)
  generalize w.alloc (.cells #[.bool false, .slice none 0 0] 24) = w1 at *
  go_loopw [5, 6] (fun d i wr => ∃ (k : Nat) (D : List Int), i = .int .i64 k ∧ k ≤ l.length ∧ Hid (D.length = (k + 8) / 9) ∧ Dg D ∧ Hid (vl D = dn (l.drop (l.length - k))) ∧ wr.ownsRow (w.heap.size + 1) 3 1 d D.length (D.map (Value.int .i64)) ∧ Below (w.heap.size + 1) w1 wr)
    (fun _ i _ => l.length - (intOf i).toNat)
  case atStart => exact ⟨0, [], rfl, by omega, Lib.hid rfl, Dig.nil _, Lib.hid (by rw [Nat.sub_zero, List.drop_length]; rfl), World.ownsRow_nil _ _ _ _, by rw [← hws]; exact Below.refl _ _⟩
  case round =>
    obtain ⟨k, D, rfl, hk, hDl, dD, hv, hown, hx⟩ := hrel
    have hsx := hx.size
    rw [hws] at hsx
    by_cases hkl : k < l.length
    · have c1 : (k : Int) < (l.length : Int) := by omega
      obtain ⟨c, hc⟩ : ∃ c, (l.getD (l.length - 1 - k) 0).toNat = c := ⟨_, rfl⟩
      have hb' : ∀ h : l.length - 1 - k < (⟨⟨l⟩⟩ : ByteArray).size, ((⟨⟨l⟩⟩ : ByteArray)[l.length - 1 - k]'h).toNat = c := fun h => by rw [byte_at]; exact hc
      have hcd : 48 ≤ c ∧ c ≤ 57 := by
        have := hQ (l.getD (l.length - 1 - k) 0) (by rw [List.getD_eq_getElem?_getD, List.getElem?_eq_getElem (by omega)]; exact List.getElem_mem _)
        unfold isd at this
        rw [hc] at this
        exact this
      obtain ⟨q, hq⟩ : ∃ q, k / 9 = q := ⟨_, rfl⟩
      obtain ⟨r, hr⟩ : ∃ r, k % 9 = r := ⟨_, rfl⟩
      have hkd : (k : Int) / 9 = (q : Int) := by omega
      have hkm : (k : Int) % 9 = (r : Int) := by omega
      have r9 : r < 9 := by omega
      have H1 := fun D h => Hs.out k D hkl h
      rw [hq, hr] at H1
      have HS := Lib.hid H1
      clear H1
      go_wp2
      go_loopw [7, 8] (fun o j wz => ∃ (m : Nat) (u : Int), o = .int .i64 u ∧ j = .int .i64 m ∧ m ≤ r ∧ Hid (u = ((c : Int) - 48) * 10 ^ m) ∧ 0 ≤ u ∧ u < 1000000000 ∧ wr = wz)
        (fun _ j _ => r - (intOf j).toNat)
      case atStart => exact ⟨0, (c : Int) - 48, rfl, rfl, by omega, Lib.hid (by simp), by omega, by omega, rfl⟩
      case round =>
        obtain ⟨m, u, rfl, rfl, hm, hu, u0, u1, rfl⟩ := hrel
        by_cases hmr : m < r
        · have c2 : (m : Int) < (r : Int) := by omega
          have hu2 : 10 * u = ((c : Int) - 48) * 10 ^ (m + 1) := by rw [hu.out, Int.pow_succ]; grind
          have hp8 := pow10_le (show m + 1 ≤ 8 by omega)
          have hp0 : (0 : Int) < 10 ^ (m + 1) := Int.pow_pos (by omega)
          have b2 : 10 * u < 1000000000 := by
            have := Int.mul_le_mul_of_nonneg_right (show (c : Int) - 48 ≤ 9 by omega) (show (0 : Int) ≤ 10 ^ (m + 1) by omega)
            omega
          have HU := Lib.hid hu2
          clear hu2 hp8 hp0 hu hb' hc hown hx
          go_wp2
          go_roundw
          case rel => exact ⟨m + 1, 10 * u, rfl, by simp, by omega, HU, by omega, b2, trivial⟩
          case measure => simp [intOf]; omega
        · obtain rfl : m = r := by omega
          have c2 : ¬ (m : Int) < (m : Int) := by omega
          have HO : Hid (u = (((l.getD (l.length - 1 - k) 0).toNat : Int) - 48) * 10 ^ m) := Lib.hid (by rw [hu.out, hc])
          clear hu hb' hc hm hmr
          by_cases hm0 : m = 0
          · subst hm0
            go_wp2_with (at_builtin; refine wpList_append_own _ rfl _ _ 22 rfl (w.heap.size + 1) 3 i0 (.int .i64 0) 1 8 Tryd.underlying22 hi hz0 hz1 hz2 rfl (by decide) _ _ _ rfl (hown.alloc _) ⟨wr.heap.size, 0, none⟩ 1 1 [.int .i64 0] rfl rfl (one_at _ _ _) (one_cell _ _) (by have := hDl.out; unfold maxLen; omega) (by have := hDl.out; omega) (by simp only [World.size_alloc]; omega) ?_)
            intro v' w5 hown' hgrow _
            have hx5 := (hx.alloc (by omega) (.cells #[.int .i64 0] 3)).grown hgrow (by simp only [World.size_alloc]; omega) (fun k hk => (hown.lt k hk).1)
            have own5 : w5.ownsRow (w.heap.size + 1) 3 1 v' (D ++ [0]).length ((D ++ [0]).map (Value.int .i64)) := by rw [List.length_append, List.map_append]; exact hown'
            have hv5 : Hid (vl (D ++ [0]) = dn (l.drop (l.length - k))) := Lib.hid (by rw [← hv.out]; exact vl_zeros D 1)
            have dD5 : Dg (D ++ [0]) := dD.snoc (by omega) (by omega)
            have hl5 : (D ++ [0]).length = q + 1 := by have := hDl.out; rw [List.length_append, List.length_singleton]; omega
            clear hown hx hgrow hown' hv dD hDl
            generalize D ++ [0] = E at *
            obtain ⟨s1, s2, s3, s4, s5⟩ := HS.out E dD5 hl5 hv5.out u HO.out
            obtain ⟨g, cap, rfl⟩ := own_head own5 (by omega)
            have hce := own5.cellAt q (by omega)
            have ee : (E.map (Value.int .i64))[q]? = some (.int .i64 (el E q)) := by
              rw [List.getElem?_map, el_eq, List.getD_eq_getElem?_getD, List.getElem?_eq_getElem (by omega)]; rfl
            rw [ee] at hce
            have hfz := own5.frozenAt q
            have hge := (own_cap own5).2
            have hlt5 : g < w5.heap.size := World.block_lt_of_cell? w5 _ hce
            have dD6 := dD5.set q (d := el E q + u) (by omega) s4
            obtain ⟨x, hxe⟩ : ∃ x, el E q = x := ⟨_, rfl⟩
            rw [hxe] at hce s1 s4 s5 dD6
            have own6 := (own5.stored q (.int .i64 (x + u))).1
            rw [← List.map_set] at own6
            have hl6 : (E.set q (x + u)).length = E.length := List.length_set
            have Hl6 : Hid ((E.set q (x + u)).length = (k + 1 + 8) / 9) := Lib.hid (by rw [hl6]; omega)
            have S5 := Lib.hid s5
            have cqE : (q : Int) < (E.length : Int) := by omega
            have own7 : (w5.setCell ⟨g, q, none⟩ (.int .i64 (x + u))).ownsRow (w.heap.size + 1) 3 1 (.slice (some ⟨g, 0, none⟩) E.length cap) (E.set q (x + u)).length ((E.set q (x + u)).map (Value.int .i64)) := by rw [hl6]; exact own6
            clear s5 hxe ee own5 own6 hl6 hv5 dD5 HS HO Hs hQ
            go_wp2
            go_roundw
            case rel => exact ⟨k + 1, E.set q (x + u), by simp, by omega, Hl6, dD6, S5, own7, hx5.setCell hge _⟩
            case measure => simp [intOf]; omega
          · have hm1 : ((m : Int) == 0) = false := by rw [beq_eq_false_iff_ne]; omega
            have hl5 : D.length = q + 1 := by have := hDl.out; omega
            have own5 := hown
            have hv5 := hv
            have dD5 := dD
            have hx5 := hx
            clear hown hx hv dD hDl
            generalize D = E at *
            generalize wr = w5 at *
            obtain ⟨s1, s2, s3, s4, s5⟩ := HS.out E dD5 hl5 hv5.out u HO.out
            obtain ⟨g, cap, rfl⟩ := own_head own5 (by omega)
            have hce := own5.cellAt q (by omega)
            have ee : (E.map (Value.int .i64))[q]? = some (.int .i64 (el E q)) := by
              rw [List.getElem?_map, el_eq, List.getD_eq_getElem?_getD, List.getElem?_eq_getElem (by omega)]; rfl
            rw [ee] at hce
            have hfz := own5.frozenAt q
            have hge := (own_cap own5).2
            have hlt5 : g < w5.heap.size := World.block_lt_of_cell? w5 _ hce
            have dD6 := dD5.set q (d := el E q + u) (by omega) s4
            obtain ⟨x, hxe⟩ : ∃ x, el E q = x := ⟨_, rfl⟩
            rw [hxe] at hce s1 s4 s5 dD6
            have own6 := (own5.stored q (.int .i64 (x + u))).1
            rw [← List.map_set] at own6
            have hl6 : (E.set q (x + u)).length = E.length := List.length_set
            have Hl6 : Hid ((E.set q (x + u)).length = (k + 1 + 8) / 9) := Lib.hid (by rw [hl6]; omega)
            have S5 := Lib.hid s5
            have cqE : (q : Int) < (E.length : Int) := by omega
            have own7 : (w5.setCell ⟨g, q, none⟩ (.int .i64 (x + u))).ownsRow (w.heap.size + 1) 3 1 (.slice (some ⟨g, 0, none⟩) E.length cap) (E.set q (x + u)).length ((E.set q (x + u)).map (Value.int .i64)) := by rw [hl6]; exact own6
            clear s5 hxe ee own5 own6 hl6 hv5 dD5 HS HO Hs hQ
            go_wp2
            go_roundw
            case rel => exact ⟨k + 1, E.set q (x + u), by simp, by omega, Hl6, dD6, S5, own7, hx5.setCell hge _⟩
            case measure => simp [intOf]; omega
    · have c1 : ¬ (k : Int) < (l.length : Int) := by omega
      obtain rfl : k = l.length := by omega
      have hls := Ls.own hown
      have hlen : D.length ≤ 100000 := by have := hDl.out; omega
      have e : vl D = dn l := by have := hv.out; rwa [Nat.sub_self, List.drop_zero] at this
      obtain ⟨pv, cv, rfl⟩ := own_slice hown
      have hmk := made_any false _ D wr hls dD hlen
      rw [e] at hmk
      have bR1 := bR.keepB hx (by omega)
      have hB1 := hB.trans (hx.mono (by omega))
      generalize D.length = nD at *
      clear hown hls e hv dD hDl hlen hx bR hB Hs hQ
      go_wp2_with fail
      go_at_call 63
      refine hmk.mono ?_
      rintro e w3 ⟨⟨p, a, n, c, rfl, L⟩, hb⟩
      replace L : Lg w3 _ (dn l) := L
      replace bR1 := bR1.keep hb
      replace hB1 := hB1.trans (hb.mono hB1.size)
      have r0 := bR1.c0
      have r1 := bR1.c1
      have z0 := bR1.f 0
      have z1 := bR1.f 1
      have lR := bR1.lt
      have hL := Lib.hid (L.put bR1 p a n c)
      clear L hmk hb
      go_wp2
      refine bodyPost_ret (v := .tuple #[.agg #[.bool p, .slice a n c], .int .i64 0]) (by simp [results, Tryd.results53, go_sem, r0, r1, z0, z1, lR]) rfl ⟨⟨_, _, _, _, rfl, hL.out⟩, by (repeat (first | with_reducible exact Below.refl _ _ | with_reducible assumption | refine Below.alloc ?_ (by (try simp); try omega) _ | refine Below.setCell ?_ (by (try simp); try omega) _ | refine below_drewN ?_ _ | refine Below.drew ?_ | (with_reducible refine Below.trans ?_ (Below.mono (by assumption) (by (try simp); try omega)))))⟩
set_option maxRecDepth 100000 in
set_option maxHeartbeats 1000000 in
theorem rparse_bad (S : ByteArray) (w : World) (hf : ∀ w, Calls Tryd.prog 89 #[.string S] w fun e w' => e = .returned (.bool false) ∧ w = w') :
    Calls Tryd.prog 53 #[.string S] w fun e w' => e = .returned (.tuple #[noL, .int .i64 5]) ∧ Below w.heap.size w w' := by
  have hB : Below w.heap.size w (w.alloc (.cells #[.bool false, .slice none 0 0] 24)) := by (repeat (first | with_reducible exact Below.refl _ _ | with_reducible assumption | refine Below.alloc ?_ (by (try simp); try omega) _ | refine Below.setCell ?_ (by (try simp); try omega) _ | refine below_drewN ?_ _ | refine Below.drew ?_ | (with_reducible refine Below.trans ?_ (Below.mono (by assumption) (by (try simp); try omega)))))
  have bR := Bx.new w (.bool false) (.slice none 0 0) 24
  have r0 := bR.c0
  have r1 := bR.c1
  have z0 := bR.f 0
  have z1 := bR.f 1
  have lR := bR.lt
  go_enter Tryd.func53, Tryd.ntmps53
  go_wp2_with (go_at_call 89; refine (hf _).mono ?_; rintro e w1 ⟨rfl, rfl⟩)
  refine bodyPost_ret (v := .tuple #[.agg #[.bool false, .slice none 0 0], .int .i64 5]) (by simp [results, Tryd.results53, go_sem, r0, r1, z0, z1, lR]) rfl ⟨rfl, by (repeat (first | with_reducible exact Below.refl _ _ | with_reducible assumption | refine Below.alloc ?_ (by (try simp); try omega) _ | refine Below.setCell ?_ (by (try simp); try omega) _ | refine below_drewN ?_ _ | refine Below.drew ?_ | (with_reducible refine Below.trans ?_ (Below.mono (by assumption) (by (try simp); try omega)))))⟩
theorem rparse_num (l : List UInt8) (z : Int) (w : World) (h : PText l z) :
    Calls Tryd.prog 53 #[.string ⟨⟨l⟩⟩] w fun e w' => OkE z 0 e w' ∧ Below w.heap.size w w' := by
  rcases h with ⟨rfl, rfl⟩ | ⟨T, rfl, hp, hl, rfl⟩ | ⟨hp, hl, rfl⟩
  · exact rparse_pos [48] w (fun c hc => by rw [List.mem_singleton.1 hc]; exact ⟨by decide, by decide⟩) (by decide) (by decide) form_zero
  · obtain ⟨c, t, rfl, hc, c0, ht, hall⟩ := isPos_true hp
    exact rparse_neg _ w hall (by simp) hl hp
  · obtain ⟨c, t, rfl, hc, c0, ht, hall⟩ := isPos_true hp
    obtain ⟨_, _, c', t', e, h45, h48⟩ := pos_len hp hl
    injection e with e1 e2
    subst e1
    refine rparse_pos _ w hall (by simp) hl (fun w => ?_)
    have := form_pos c t w h45 h48 (by omega)
    rwa [hp] at this
/-- Both read a text of at most six hundred characters alike. -/
theorem parse_both (l : List UInt8) (hl : l.length ≤ 600) : ∃ z er, Dl z ≤ 600 ∧
    (∀ w, Calls Tryd.prog 52 #[.string ⟨⟨l⟩⟩] w fun e w' => OkE z er e w' ∧ Below w.heap.size w w') ∧
    (∀ w, Calls Tryd.prog 53 #[.string ⟨⟨l⟩⟩] w fun e w' => OkE z er e w' ∧ Below w.heap.size w w') := by
  by_cases h : ∃ z, PText l z
  · obtain ⟨z, h⟩ := h
    exact ⟨z, 0, h.len, fun w => (parse_num l z w h).mono fun _ _ k => ⟨k.1.e, k.2⟩, fun w => rparse_num l z w h⟩
  · refine ⟨0, 5, by rw [Dl_zero]; omega, fun w => ?_, fun w => ?_⟩
    · refine ((parse_any l hl).resolve_left h w).mono ?_
      rintro e w' ⟨rfl, hb⟩
      exact ⟨okE_zero 5 _, hb⟩
    · have hf : ∀ w, Calls Tryd.prog 89 #[.string ⟨⟨l⟩⟩] w fun e w' => e = .returned (.bool false) ∧ w = w' := by
        intro w
        match l, hl, h with
        | [], _, _ => exact form_empty w
        | c :: t, hl, h =>
          rw [List.length_cons] at hl
          by_cases hc : c.toNat = 45
          · obtain rfl : c = 45 := UInt8.toNat_inj.1 hc
            have := form_neg t w (by omega)
            cases hp : isPos t
            · rwa [hp] at this
            · exact absurd ⟨_, .inr (.inl ⟨t, rfl, hp, by omega, rfl⟩)⟩ h
          · by_cases h48 : c :: t = [48]
            · exact absurd ⟨0, .inl ⟨h48, rfl⟩⟩ h
            · have := form_pos c t w hc h48 (by rw [List.length_cons]; omega)
              cases hp : isPos (c :: t)
              · rwa [hp] at this
              · exact absurd ⟨_, .inr (.inr ⟨hp, by rw [List.length_cons]; omega, rfl⟩)⟩ h
      refine (rparse_bad _ w hf).mono ?_
      rintro e w' ⟨rfl, hb⟩
      exact ⟨okE_zero 5 _, hb⟩
end Go.Proofs.YtoppdbgodceaiaaDoor
