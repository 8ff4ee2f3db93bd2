/-
  Walks of package long: dividedLong.
-/
import Derived.Test.YthhbnhdejbpjiaaDoorLjO
import Derived.Test.YthhbnhdejbpjiaaDoorLgG
import Derived.Test.YthhbnhdejbpjiaaDoorLgH
import Derived.Deep.LoopGhost
namespace Go.Proofs.YthhbnhdejbpjiaaDoor
open Go.RowKit

theorem window_ls {w : World} {g p m : Nat} {T : List Int} (h : Rw w g T) (hp : p + m ≤ T.length) : Ls w (.slice (some ⟨g, p, none⟩) m (T.length - p)) ((T.drop p).take m) := by
  have e : ((T.drop p).take m).length = m := by simp; omega
  refine ⟨_, T.length - p, by rw [e], ⟨by omega, fun h => by cases h⟩, fun _ => ⟨_, _, rfl, fun i hi => ?_⟩⟩
  rw [el_take (by omega), el_drop]; exact h.cell (by omega)
theorem dg_top {y : Int} (hy : 0 < y) : el (dg y) ((dg y).length - 1) ≠ 0 := by
  rcases dg_nrm y (by omega) with h | h
  · have := dg_len_pos hy; rw [h] at this; simp at this
  · exact h
/-- The digits of a number that hold at a window: all that is wanted of them. -/
theorem window_facts {T : List Int} {y : Int} {p : Nat} (hy : 0 < y) (dT : Dg T) (hp : p + (dg y).length < T.length) (hv : vl (T.drop (p + 1)) < y) :
    (∀ j, p + (dg y).length < j → el T j = 0) ∧ vl ((T.drop p).take ((dg y).length + 1)) = vl (T.drop p) ∧ vl (T.drop p) < 1000000000 * y ∧ 0 ≤ vl (T.drop p) := by
  have h1 : ∀ j, p + (dg y).length < j → el T j = 0 := fun j hj => by
    have := high_zero (m := (dg y).length) (dT.drop (p + 1)) (Int.lt_trans hv (dg_lt (by omega))) (j - (p + 1)) (by omega)
    rw [el_drop, show p + 1 + (j - (p + 1)) = j by omega] at this
    exact this
  refine ⟨h1, ?_, ?_, vl_nonneg (dT.drop p)⟩
  · have e := val_cut 1000000000 (T.drop p) ((dg y).length + 1)
    have z : vl (((T.drop p)).drop ((dg y).length + 1)) = 0 := drop_zero_el fun j hj => by rw [el_drop]; exact h1 _ (by omega)
    have z' : val 1000000000 ((T.drop p).drop ((dg y).length + 1)) = 0 := z
    rw [z', Int.mul_zero, Int.add_zero] at e
    exact e.symm
  · have e : vl (T.drop p) = el T p + 1000000000 * vl (T.drop (p + 1)) := val_drop_pred _ _ _ (by omega)
    have := dT.el (by omega) p
    omega
theorem div_start {x y : Int} {N : Nat} {a : List Int} (ha : a = dg x) (hx : 0 ≤ x) (hy : 0 < y) (h2 : 1 ≤ (dg y).length) (hN : N + (dg y).length = a.length + 1) : vl ((a ++ [0]).drop N) < y := by
  have e : (a ++ [0]).drop N = a.drop N ++ [0] := by rw [List.drop_append_of_le_length (by omega)]
  rw [e, show a.drop N ++ [0] = a.drop N ++ List.replicate 1 0 from rfl, vl_zeros]
  have h := vl_lt ((ha ▸ dg_dig x hx : Dg a).drop N)
  rw [List.length_drop, show a.length - N = (dg y).length - 1 by omega] at h
  have := dg_ge hy
  omega

set_option maxRecDepth 100000 in
set_option maxHeartbeats 4000000 in
theorem divLong_own (va vb : Value) (x y : Int) (w : World) (x0 : 0 ≤ x) (y0 : 0 < y) (ha : Ls w va (dg x)) (hb : Ls w vb (dg y)) (la : (dg x).length ≤ 1000) (lb : 2 ≤ (dg y).length) (hab : (dg y).length ≤ (dg x).length) :
    Calls Tryd.prog 65 #[va, vb] w fun e w' => ∃ v u, e = .returned (.tuple #[v, u]) ∧ Ls w' v (dg (x / y)) ∧ Ls w' u (dg (x % y)) ∧ Ow w' w.heap.size w.heap.size u (dg (x % y)) ∧ Below w.heap.size w w' := by
  obtain ⟨i0, hi, hz0, hz1, hz2⟩ := info_parts Tryd.infoInt
  have da := dg_dig x x0
  have db := dg_dig y (by omega)
  have nb := dg_nrm y (by omega)
  have hva := dg_val x x0
  have hvb := dg_val y (by omega)
  have hst := fun N => div_start (N := N) (a := dg x) rfl x0 y0 (by omega)
  have hwf := fun (T : List Int) (p : Nat) => window_facts (T := T) (p := p) y0
  have hyP := dg_lt (show 0 ≤ y by omega)
  generalize dg x = a at *
  have hb' := hb
  obtain ⟨pa, ca, rfl, ⟨hca', hna⟩, hpa⟩ := ha
  generalize dg y = b at *
  obtain ⟨pb, cb, rfl, ⟨hcb', hnb⟩, hqb⟩ := hb
  obtain ⟨X, hX⟩ : ∃ X, X = a.map (Value.int .i64) := ⟨_, rfl⟩
  have hXl : X.length = a.length := by rw [hX]; simp
  have hXc : ∀ v ∈ X, v.oneCell' = true := by rw [hX]; exact map_oneCell a
  have hXm : X.length = Nat.min a.length (a.length + 1) := by rw [hXl]; exact (Nat.min_eq_left (by omega)).symm
  have hXp := fun w1 => src_pos (w1 := w1) hX hpa
  obtain ⟨Z, hZ⟩ : ∃ Z, Z = List.map (Value.int .i64) (List.replicate (a.length + 1) 0) := ⟨_, rfl⟩
  have hZl : 0 + X.length ≤ Z.length := by rw [hZ, hXl]; simp
  have hsp : splice Z 0 X = (a ++ [0]).map (Value.int .i64) := by rw [hZ, hX]; exact splice_zeros a 1
  have hmade : ∀ w1 : World, Rw w1 w.heap.size (List.replicate (a.length + 1) 0) → w1.heap[w.heap.size]? = some (.cells Z.toArray 3 (0, 0)) := fun w1 h => by rw [hZ]; exact h
  have HS := Lib.hid hsp
  clear hX hZ hsp
  obtain ⟨N, hN⟩ : ∃ N, N + b.length = a.length + 1 := ⟨a.length + 1 - b.length, by omega⟩
  have hst' := Lib.hid (hst N hN)
  have eN : (a.length : Int) - (b.length : Int) + 1 = (N : Int) := by omega
  have bN : 1 ≤ N ∧ N ≤ 1000 := by omega
  replace hN := Lib.hid hN
  clear hst
  replace hwf := Lib.hid hwf
  replace hva := Lib.hid hva
  replace hvb := Lib.hid hvb
  replace hyP := Lib.hid hyP
  replace nb := Lib.hid nb
  go_enter Tryd.func65, Tryd.ntmps65
  go_wp2
  go_step3
  go_wp2_with (refine wpList_make_full _ rfl (.tmp 11) (.tmp 11) 65 rfl w.heap.size 3 i0 (.int .i64 0) 1 Tryd.underlying65 hi hz0 hz1 .i64 .i64 ((a.length : Int) + 1) ((a.length : Int) + 1) (a.length + 1) rfl rfl (by omega) (by omega) (by rw [hz2]; omega) (by unfold maxLen; omega) (Nat.le_refl _) ?_)
  intro w1 hown hgrow
  have hr := hmade _ (Rw.made hown)
  have hnx : Below w.heap.size w w1 := (Below.refl _ _).grown hgrow (Nat.le_refl _) (fun k hk => by cases hk)
  have hXq := hXp w1 hnx
  clear hgrow hown hmade hXp
  go_wp2_with (refine wpList_copy_splice rfl (.tmp 13) (.tmp 14) 65 65 rfl 3 Tryd.underlying65 (by kernel_rfl) (some ⟨w.heap.size, 0, none⟩) pa (a.length + 1) (a.length + 1) a.length ca rfl rfl w.heap.size 0 Z 3 hr X hXm (fun h => ⟨rfl, hXq h⟩) hZl hXc w.heap.size w hnx (Nat.le_refl _) ?_; intro w2 hr2 hb2; refine Hid.out ?_)
  refine Lib.hid ?_
  have hr3 : Rw w2 w.heap.size (a ++ [0]) := by
    have := hr2.out
    rw [HS.out] at this; exact this
  clear hr2 hr hnx hXq HS hXm hXc hXl hZl
  have hlt := hr3.lt
  go_wp2_with (refine wpList_make_full _ rfl (.tmp 21) (.tmp 21) 65 rfl w2.heap.size 3 i0 (.int .i64 0) 1 Tryd.underlying65 hi hz0 hz1 .i64 .i64 (N : Int) (N : Int) N rfl rfl (by omega) (by omega) (by rw [hz2]; omega) (by unfold maxLen; omega) (Nat.le_refl _) ?_)
  intro w3 hown hgrow
  have hq := Rw.made hown
  have hnx : Below w2.heap.size w2 w3 := (Below.refl _ _).grown hgrow (Nat.le_refl _) (fun k hk => by cases hk)
  have hr4 := hr3.kept hnx hlt
  have hb3 : Below w.heap.size w w3 := hb2.trans (hnx.mono hb2.size)
  generalize w2.heap.size = g at *
  clear hgrow hown hr3 hb2 hnx
  go_wp2
  go_step3
  go_wp2
  go_loopg [6] N (fun k i wr => ∃ (T Q : List Int), i = .int .i64 ((k : Int) - 1) ∧ T.length = a.length + 1 ∧ Dg T ∧ Q.length = N ∧ Dg Q ∧ Hid (vl T + y * vl Q = x) ∧ (∀ j, j < k → el Q j = 0) ∧ Hid (vl (T.drop k) < y) ∧ k ≤ N ∧ Rw wr w.heap.size T ∧ Rw wr g Q ∧ Below w.heap.size w wr)
  case atStart => exact ⟨a ++ [0], List.replicate N 0, rfl, by simp, da.append (Dig.one (by omega) (by omega)), by simp, Dig.zeros (by omega) _, Lib.hid (by rw [show a ++ [0] = a ++ List.replicate 1 0 from rfl, vl_zeros, hva.out, show vl (List.replicate N 0) = 0 from val_zeros _ _]; omega), (fun j _ => by have := el_zeros [] N j; rw [List.nil_append] at this; rw [this]; rfl), hst', Nat.le_refl _, hr4, hq, hb3⟩
  case round =>
    clear hr4 hq hb3 hst'
    obtain ⟨T, Q, rfl, hTl, dT, hQl, dQ, hv, hz, hlow, hkN, hrT, hrQ, hnx⟩ := hrel
    cases gk with
    | zero =>
      have hlsT : Ls wr (.slice (some ⟨w.heap.size, 0, none⟩) (a.length + 1) (a.length + 1)) T := by rw [← hTl]; exact hrT.ls
      have hlsQ : Ls wr (.slice (some ⟨g, 0, none⟩) N N) Q := by rw [← hQl]; exact hrQ.ls
      have hoT : Ow wr w.heap.size w.heap.size (.slice (some ⟨w.heap.size, 0, none⟩) T.length T.length) T := hrT.ow (Nat.le_refl _) (by unfold maxLen; omega)
      have hcT := trimmed_own _ _ _ T wr hoT dT (by omega)
      rw [hTl] at hcT
      clear hoT
      have hcQ := trimmed_any _ Q wr hlsQ dQ (by omega)
      have e1 : vl Q = x / y ∧ vl T = x % y := by
        have e := hv.out
        have h1 := hlow.out
        rw [List.drop_zero] at h1
        have h2 := vl_nonneg dT
        subst e
        rw [Int.add_mul_ediv_left _ _ (by omega), Int.ediv_eq_zero_of_lt h2 h1, Int.add_mul_emod_self_left, Int.emod_eq_of_lt h2 h1]
        exact ⟨by omega, rfl⟩
      rw [e1.1] at hcQ
      rw [e1.2] at hcT
      clear e1 hlsT hlsQ hv hz hlow dT dQ
      go_wp2_with fail
      go_at_call 57
      refine hcQ.mono ?_
      rintro e w4 ⟨v, rfl, hs, rfl⟩
      go_wp2_with fail
      go_at_call 57
      refine hcT.mono ?_
      rintro e w5 ⟨u, rfl, hs2, rfl⟩
      go_wp2
      rw [Exit.noGoto_ret]
      go_ret2
      exact ⟨v, u, rfl, hs, hs2.ls, hs2, hnx⟩
    | succ p =>
      rw [show (((p + 1 : Nat) : Int) - 1) = (p : Int) by omega]
      obtain ⟨hzero, hWv, hWlt, hW0⟩ := hwf.out T p dT (by have := hN.out; omega) hlow.out
      have hls := window_ls (p := p) (m := b.length + 1) hrT (by have := hN.out; omega)
      have hpl : p + b.length + 1 ≤ a.length + 1 := by have := hN.out; omega
      have hWl : ((T.drop p).take (b.length + 1)).length = b.length + 1 := by simp; omega
      have dW : Dg ((T.drop p).take (b.length + 1)) := (dT.drop p).take _
      have hn1 : el b (b.length - 1) ≠ 0 := by
        rcases nb.out with h | h
        · rw [h] at lb; simp at lb
        · exact h
      have hest := estimate_any _ _ _ b wr hls (hb'.keep hnx) dW db lb (by omega) hWl hn1
      have hE := estimate_dig dW db nb.out lb hWl (by rw [hWv, hvb.out]; exact hWlt)
      dsimp only at hE
      rw [hWv, hvb.out] at hE
      rw [hTl] at hest
      generalize ((el ((T.drop p).take (b.length + 1)) b.length * 1000000000 + el ((T.drop p).take (b.length + 1)) (b.length - 1)) * 1000000000 + el ((T.drop p).take (b.length + 1)) (b.length - 2)) / (el b (b.length - 1) * 1000000000 + el b (b.length - 2)) = q at *
      obtain ⟨n, hn⟩ : ∃ n, vl (T.drop p) = n := ⟨_, rfl⟩
      rw [hn] at hE hWlt hW0
      have hsub := fun wx hx hR => subTimes_any w wx w.heap.size p (a.length + 1 - p) T b _ q hb' hx (Nat.le_refl _) hR db (by omega) (by omega) (fun j _ _ => dT.el (by omega) j) (dT.el (by omega) _) (by omega) (by omega)
      have hHn := Lib.hid hn
      have hHE := Lib.hid hE
      obtain ⟨m0, hm0, hm1⟩ : ∃ m0 : Nat, m0 ≤ 1 ∧ q = n / y + m0 := ⟨(q - n / y).toNat, by omega, by omega⟩
      have hHm := Lib.hid hm1
      have hHz := Lib.hid hzero
      clear hn hE hm1 hzero hWv hls hlow dW hWl hn1
      go_wp2_with fail
      rw [show p + b.length + 1 - p = b.length + 1 by omega]
      go_at_call 75
      refine hest.mono ?_
      rintro e w4 ⟨rfl, hb4⟩
      have hnx4 : Below w.heap.size w w4 := hnx.trans (hb4.mono hnx.size)
      have hrT4 : Rw w4 w.heap.size T := hrT.kept hb4 hrT.lt
      have hrQ4 : Rw w4 g Q := hrQ.kept hb4 hrQ.lt
      clear hest hb4 hnx hrT hrQ
      go_wp2_with fail
      go_at_call 76
      refine (hsub w4 hnx4 hrT4).mono ?_
      rintro e w5 ⟨T1, rfl, hr5, hl5, ho5, hd5, ht5, hv5, hoth, hb5⟩
      have hnx5 : Below w.heap.size w w5 := hnx4.trans hb5
      have hrQ5 : Rw w5 g Q := hoth g Q (by omega) hrQ4
      clear hsub hoth hb5 hnx4 hrT4 hrQ4
      rw [hvb.out] at hv5
      replace hv5 := Lib.hid hv5
      replace ht5 := Lib.hid ht5
      rw [hTl] at hl5
      go_wp2
      go_loopg [8] m0 (fun m d wz => ∃ (D : Int) (T' : List Int), d = .int .i64 D ∧ Hid (D = n / y + m) ∧ m ≤ 1 ∧ T'.length = a.length + 1 ∧ (∀ j, j < p ∨ p + b.length < j → el T' j = el T j) ∧ (∀ j, p ≤ j → j < p + b.length → 0 ≤ el T' j ∧ el T' j < 1000000000) ∧ Hid (-2000000000 ≤ el T' (p + b.length) ∧ el T' (p + b.length) ≤ 1000000000) ∧ Hid (vl T' = vl T - 1000000000 ^ p * (D * y)) ∧ Rw wz w.heap.size T' ∧ Rw wz g Q ∧ Below w.heap.size w wz)
      case atStart => exact ⟨q, T1, rfl, hHm, hm0, hl5, ho5, hd5, Lib.hid ⟨ht5.out.1, Int.le_of_lt ht5.out.2⟩, hv5, hr5, hrQ5, hnx5⟩
      case round =>
        clear hr5 hrQ5 hnx5 hv5 ht5 hl5 ho5 hd5 hHm hm0
        obtain ⟨D, T', rfl, hD, hm, hl, ho, hd, ht, hv', hr, hrQ, hnx⟩ := hrel
        have hc := hr.cell (i := p + b.length) (by omega)
        have hpT : p + b.length < T'.length := by omega
        obtain ⟨low, lo0, lo1, hw⟩ := win hpT hd (fun j hj => by rw [ho j (by omega)]; exact hHz.out j hj)
        have hdc : vl (T'.drop p) = n - D * y := by
          have e := drop_change (p := p) (c := -(D * y)) (show T'.length = T.length by omega) (by omega) (fun j hj => ho j (by omega)) (by rw [hv'.out]; grind)
          rw [e, hHn.out]; omega
        obtain ⟨t, et⟩ : ∃ t, el T' (p + b.length) = t := ⟨_, rfl⟩
        rw [et] at hc ht hw
        have hsg := digit_sign y0 hyP.out (hdc.symm.trans hw) lo0 lo1 (by rw [hD.out]; omega) (by rw [hD.out]; omega)
        by_cases ht0 : 0 ≤ t
        · obtain ⟨eD, et0, er⟩ := hsg.1 ht0
          have hrem := Int.emod_lt_of_pos n y0
          have bD : 0 ≤ D ∧ D < 1000000000 := by rw [eD]; exact hHE.out.2.2
          have hq1 := hrQ.cell (i := p) (by omega)
          have hq2 := hrQ.frz p
          have dT' : Dg T' := dig_of_el fun j hj => by
            by_cases c1 : j < p
            · rw [ho j (Or.inl c1)]; exact dT.el (by omega) j
            · by_cases c2 : j < p + b.length
              · exact hd j (by omega) c2
              · by_cases c3 : j = p + b.length
                · subst c3; rw [et, et0]; omega
                · rw [ho j (by omega), hHz.out j (by omega)]; omega
          have hv2 : vl T' + y * vl (Q.set p D) = x := by
            have e1 := hv.out
            rw [vl_set _ _ _ (by omega), hz p (by omega), hv'.out, ← e1]; grind
          have hlow2 : vl (T'.drop p) < y := by rw [hdc, er]; exact hrem
          have hz2 : ∀ j, j < p → el (Q.set p D) j = 0 := fun j hj => by rw [el_set_ne _ _ _ _ (by omega)]; exact hz j (by omega)
          have dQ2 : Dg (Q.set p D) := dQ.set _ bD.1 bD.2
          have hrQ2 := hrQ.stored p D
          have hrT2 := hr.other (o := p) (show w.heap.size ≠ g by omega) (.int .i64 D)
          have hQl2 : (Q.set p D).length = N := by simpa using hQl
          generalize Q.set p D = Q2 at *
          replace hv2 := Lib.hid hv2
          replace hlow2 := Lib.hid hlow2
          have hpN : p < N := by omega
          clear eD et0 er hrem hsg hdc hw et hz hv hv' ho hd hD lo0 lo1
          go_wp2
          go_roundg p
          case measure => omega
          case rel => exact ⟨T', Q2, rfl, hl, dT', hQl2, dQ2, hv2, hz2, hlow2, by omega, hrT2, hrQ2, by (repeat (first | with_reducible exact Below.refl _ _ | with_reducible assumption | refine Below.alloc ?_ (by (try simp); try omega) _ | refine Below.setCell ?_ (by (try simp); try omega) _ | refine below_drewN ?_ _ | refine Below.drew ?_ | (with_reducible refine Below.trans ?_ (Below.mono (by assumption) (by (try simp); try omega)))))⟩
        · have eD := hsg.2 (by omega)
          have em : gk = 1 := by have := hD.out; omega
          subst em
          have hback := fun wx hx hR => addBack_any w wx w.heap.size p (a.length + 1 - p) T' b _ hb' hx (Nat.le_refl _) hR db (by omega) (by omega) hd (by rw [et]; have := ht.out; omega)
          have hDm : Hid (D - 1 = n / y + ((0 : Nat) : Int)) := Lib.hid (by rw [eD]; omega)
          have bD : 0 ≤ D ∧ D ≤ 1000000000 := by rw [eD]; have := hHE.out; omega
          clear eD hsg hdc hw lo0 lo1
          have et' := Lib.hid et
          clear et
          go_wp2_with fail
          go_at_call 77
          refine (hback _ hnx hr).mono ?_
          rintro e w5 ⟨T1, rfl, hr5, hl5, ho5, hd5, ht5, hv5, hoth, hb5⟩
          have hnx5 : Below w.heap.size w w5 := hnx.trans hb5
          have hrQ5 : Rw w5 g Q := hoth g Q (by omega) hrQ
          have hv6 : Hid (vl T1 = vl T - 1000000000 ^ p * ((D - 1) * y)) := Lib.hid (by rw [hv5, hv'.out, hvb.out]; grind)
          have ho6 : ∀ j, j < p ∨ p + b.length < j → el T1 j = el T j := fun j hj => by rw [ho5 j hj, ho j hj]
          replace ht5 := Lib.hid ht5
          clear hv5 hoth hb5 hback hnx hr hrQ ho5 hv'
          go_wp2
          go_roundg 0
          case measure => omega
          case rel => exact ⟨D - 1, T1, rfl, hDm, by omega, by omega, ho6, hd5, ht5, hv6, hr5, hrQ5, hnx5⟩
theorem divLong_any (va vb : Value) (x y : Int) (w : World) (x0 : 0 ≤ x) (y0 : 0 < y) (ha : Ls w va (dg x)) (hb : Ls w vb (dg y)) (la : (dg x).length ≤ 1000) (lb : 2 ≤ (dg y).length) (hab : (dg y).length ≤ (dg x).length) :
    Calls Tryd.prog 65 #[va, vb] w fun e w' => ∃ v u, e = .returned (.tuple #[v, u]) ∧ Ls w' v (dg (x / y)) ∧ Ls w' u (dg (x % y)) ∧ Below w.heap.size w w' :=
  (divLong_own va vb x y w x0 y0 ha hb la lb hab).mono fun _ _ ⟨v, u, h1, h2, h3, _, h4⟩ => ⟨v, u, h1, h2, h3, h4⟩
end Go.Proofs.YthhbnhdejbpjiaaDoor
