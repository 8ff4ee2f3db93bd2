/-
  PolyEvals and PolySlopes: the walks.
-/
import Derived.Test.YtdaignklmbmcnaaPyU
import Derived.Test.YtdaignklmbmcnaaPyX
namespace Go.Proofs.Ytdaignklmbmcnaa
open Go.RowKit

theorem refEval_eq {w : World} {v : Value} {l : List (Int × Int)} {x y a b c : Int} (h : Sn w v l) (e : evR l x y = (a, b, c)) : Calls Try.prog 14 #[v, .agg #[.int .i64 x, .int .i64 y]] w fun r w' => r = .returned (.tuple #[.agg #[.int .i64 a, .int .i64 b], .int .i64 c]) ∧ Below w.heap.size w w' := by
  have := refEval8_any v l x y w h
  rw [e] at this; exact this
theorem refSlope_eq {w : World} {v : Value} {l : List (Int × Int)} {x y a b c : Int} (h : Sn w v l) (e : slR l x y = (a, b, c)) : Calls Try.prog 16 #[v, .agg #[.int .i64 x, .int .i64 y]] w fun r w' => r = .returned (.tuple #[.agg #[.int .i64 a, .int .i64 b], .int .i64 c]) ∧ Below w.heap.size w w' := by
  have := refSlope8_any v l x y w h
  rw [e] at this; exact this
theorem few_any (va : Value) (l : List (Int × Int)) (w : World) (ha : Sn w va l) :
    Calls Try.prog 10 #[va] w fun r w' => ∃ u, r = .returned u ∧ Sn w' u (l.take 10) ∧ Below w.heap.size w w' := by
  obtain ⟨pa, ca, rfl, ⟨hc, hz⟩, hp⟩ := ha
  by_cases h : 10 ≤ l.length
  · have hm : min (l.length : Int) 10 = 10 := by omega
    have ht : (l.take 10).length = 10 := by simp; omega
    have hS : Sn w (.slice pa 10 ca) (l.take 10) := by
      refine ⟨pa, ca, by rw [ht], ⟨by omega, hz⟩, fun _ => ?_⟩
      obtain ⟨b, off, e, hcs⟩ := hp (by omega)
      refine ⟨b, off, e, fun i hi => ?_⟩
      rw [ht] at hi
      have e : pf (l.take 10) i = pf l i := by
        unfold pf
        rw [List.getD_eq_getElem?_getD, List.getD_eq_getElem?_getD, List.getElem?_take_of_lt hi]
      rw [e]
      exact hcs i (by omega)
    obtain ⟨n, hn⟩ : ∃ n, l.length = n := ⟨_, rfl⟩
    rw [hn] at hc h hm ⊢
    have h10 : (10 : Int) ≤ (ca : Int) := by omega
    obtain ⟨b, off, rfl, _⟩ := hp (by omega)
    clear hp hz hn ht
    go_enter Try.func10, Try.ntmps10
    go_wp2
    go_ret
    exact ⟨_, rfl, hS, Below.refl _ _⟩
  · have hm : min (l.length : Int) 10 = (l.length : Int) := by omega
    have hS : Sn w (.slice pa l.length ca) (l.take 10) := by
      rw [List.take_of_length_le (by omega)]
      exact ⟨pa, ca, rfl, ⟨hc, hz⟩, hp⟩
    obtain ⟨n, hn⟩ : ∃ n, l.length = n := ⟨_, rfl⟩
    rw [hn] at hc h hm hS ⊢
    clear hp hn
    go_enter Try.func10, Try.ntmps10
    go_wp2
    go_ret
    exact ⟨_, rfl, hS, Below.refl _ _⟩

theorem sn_slice {w : World} {u : Value} {l : List (Int × Int)} (h : Sn w u l) : ∃ a n c, u = .slice a n c := by
  obtain ⟨a, c, rfl, _⟩ := h
  exact ⟨_, _, _, rfl⟩
set_option maxRecDepth 100000 in
set_option maxHeartbeats 4000000 in
theorem polyEvals_true (va : Value) (l : List (Int × Int)) (x y : Int) (vD : Value) (D : List (Int × Int × Int)) (dx dy dz : Int) (w : World) (ha : Sn w va l) (_hl : l.length ≤ 9223372036854775807) (hD : Dn w vD D) (hd : 0 ≤ dy ∧ dy ≤ 255 ∧ 0 ≤ dz ∧ dz ≤ 4294967295) :
    Calls Try.prog 3 #[va, .agg #[.int .i64 x, .int .i64 y], vD, .agg #[.int .i64 dx, .int .u8 dy, .int .u32 dz]] w fun r w' => r = .returned (.bool true) ∧ Below w.heap.size w w' := by
  obtain ⟨lo, up, _, hw⟩ := drSmall_bd dx dy dz hd.1 hd.2.1 hd.2.2.1 hd.2.2.2
  clear hd
  have a0 := ((Below.refl w.heap.size w).alloc (Nat.le_refl _) (.cells #[.int .i64 x, .int .i64 y] 24)).alloc (by simp) (.cells #[.int .i64 dx, .int .u8 dy, .int .u32 dz] 28)
  have p0 : B2 ((w.alloc (.cells #[.int .i64 x, .int .i64 y] 24)).alloc (.cells #[.int .i64 dx, .int .u8 dy, .int .u32 dz] 28)) w.heap.size x y := ⟨by simp, by simp⟩
  have d0 : B3 ((w.alloc (.cells #[.int .i64 x, .int .i64 y] 24)).alloc (.cells #[.int .i64 dx, .int .u8 dy, .int .u32 dz] 28)) (w.heap.size + 1) dx dy dz := by
    have := B3.new (w.alloc (.cells #[.int .i64 x, .int .i64 y] 24)) dx dy dz 28
    rw [World.size_alloc] at this; exact this
  have ha0 := ha.keep a0
  have hD0 := hD.keep a0
  go_enter Try.func3, Try.ntmps3
  go_wp2_with fail
  go_at_call 9
  refine (works_true _).mono ?_
  rintro e V ⟨rfl, hb1⟩
  have sV := ha0.keep hb1
  have tV := hD0.keep hb1
  have pV := p0.keep hb1
  have dV := d0.keep hb1
  have aV : Below w.heap.size w V := a0.trans (hb1.mono (by simp; omega))
  clear ha hD a0 p0 d0 ha0 hD0 hb1
  go_wp2_with fail
  go_at_call 10
  refine (few_any va l V sV).mono ?_
  rintro e V1 ⟨u1, rfl, sn1, hb1⟩
  replace tV := tV.keep hb1
  replace pV := pV.keep hb1
  replace dV := dV.keep hb1
  replace aV : Below w.heap.size w V1 := aV.trans (hb1.mono aV.size)
  clear sV hb1
  go_wp2_with fail
  go_at_call 11
  refine (coefsS_any vD D _ tV).mono ?_
  rintro e V2 ⟨hb2, u2, r2, rfl, own2, _, _, _⟩
  have sn2 : Sn V2 u2 r2 := Sn.own own2
  replace sn1 := sn1.keep hb2
  replace tV := tV.keep hb2
  replace pV := pV.keep hb2
  replace dV := dV.keep hb2
  replace aV : Below w.heap.size w V2 := aV.trans (hb2.mono aV.size)
  clear own2 hb2
  go_wp2_with fail
  go_at_call 11
  refine (coefsB_any vD D _ tV).mono ?_
  rintro e V3 ⟨hb3, u3, r3, rfl, own3, _, _, _⟩
  have sn3 : Sn V3 u3 r3 := Sn.own own3
  replace sn1 := sn1.keep hb3
  replace sn2 := sn2.keep hb3
  replace pV := pV.keep hb3
  replace dV := dV.keep hb3
  replace aV : Below w.heap.size w V3 := aV.trans (hb3.mono aV.size)
  clear own3 hb3 tV
  obtain ⟨a1, n1, c1, rfl⟩ := sn_slice sn1
  obtain ⟨a2, n2, c2, rfl⟩ := sn_slice sn2
  obtain ⟨a3, n3, c3, rfl⟩ := sn_slice sn3
  go_wp2
  go_loopw [26] (fun i wr => ∃ k : Nat, i = .int .i64 (k : Int) ∧ k ≤ 3 ∧ Below V3.heap.size V3 wr)
    (fun i _ => 3 - (intOf i).toNat)
  case atStart => exact ⟨0, rfl, by omega, Below.refl _ _⟩
  case round =>
    obtain ⟨k, rfl, hk, hB⟩ := hrel
    replace sn1 := sn1.keep hB
    replace sn2 := sn2.keep hB
    replace sn3 := sn3.keep hB
    replace pV := pV.keep hB
    replace dV := dV.keep hB
    have aW : Below w.heap.size w wr := aV.trans (hB.mono aV.size)
    obtain ⟨p0, p1⟩ := pV
    obtain ⟨d0, d1, d2⟩ := dV
    by_cases hk3 : k = 3
    · subst hk3
      go_wp2
      go_ret
      exact ⟨rfl, by (repeat (first | with_reducible exact Below.refl _ _ | with_reducible assumption | refine Below.alloc ?_ (by (try simp); try omega) _ | refine Below.setCell ?_ (by (try simp); try omega) _ | refine below_drewN ?_ _ | refine Below.drew ?_ | (with_reducible refine Below.trans ?_ (Below.mono (by assumption) (by (try simp); try omega)))))⟩
    · have hsn : ∃ uu L, Sn wr uu L ∧ ∀ w, (Instr.index 32 (.agg #[.slice a1 n1 c1, .slice a2 n2 c2, .slice a3 n3 c3]) (.int .i64 (k : Int))).run Try.prog w = .ok uu w := by
        obtain rfl | rfl | rfl : k = 0 ∨ k = 1 ∨ k = 2 := by omega
        · exact ⟨_, _, sn1, fun _ => by kernel_rfl⟩
        · exact ⟨_, _, sn2, fun _ => by kernel_rfl⟩
        · exact ⟨_, _, sn3, fun _ => by kernel_rfl⟩
      obtain ⟨uu, L, hs, hidx⟩ := hsn
      have hk4 : k < 3 := by omega
      have hkl : decide ((k : Int) < 3) = true := by simp; omega
      have hlw : w.heap.size + 1 < wr.heap.size := by
        have := World.block_lt_of_cell? wr _ d0
        simpa using this
      clear sn1 sn2 sn3
      go_upto_region 6 with fail
      go_cut [32, 33] from 27 (fun v32 v33 wx => v32 = .agg #[.int .i64 x, .int .i64 y, .int .i64 lo, .int .i64 up] ∧ v33 = .int .i64 0 ∧ Below wr.heap.size wr wx)
      case first =>
        go_wp2_with fail
        go_region_with (go_at_call 12; (with_reducible refine (hw _).mono ?_); rintro e W1 ⟨rfl, hb1⟩; replace hb1 := undrewQ hb1; have e0 := bkeep hb1 p0; have e1 := bkeep hb1 p1)
        all_goals (go_wp2_with fail; go_meet)
        all_goals exact ⟨rfl, rfl, hb1⟩
      case rest =>
        obtain ⟨rfl, rfl, hb1⟩ := hcut
        have hs1 := hs.keep hb1
        have aW1 : Below w.heap.size w wc := aW.trans (hb1.mono aW.size)
        have bW1 : Below V3.heap.size V3 wc := hB.trans (hb1.mono hB.size)
        clear hw hs hidx hb1 p0 p1 d0 d1 d2 aW hB
        go_wp2
        go_loopw [33] (fun i wr => ∃ j : Nat, i = .int .i64 (j : Int) ∧ j ≤ 2 ∧ Below wc.heap.size wc wr)
          (fun i _ => 2 - (intOf i).toNat)
        case atStart => exact ⟨0, rfl, by omega, Below.refl _ _⟩
        case round =>
          obtain ⟨j, rfl, hj, hC⟩ := hrel
          by_cases hj2 : j = 2
          · subst hj2
            go_wp2
            refine ⟨⟨k + 1, by simp, by omega, bW1.trans (hC.mono bW1.size)⟩, ?_⟩
            simp [intOf]; omega
          · have hjx : ∃ t0 t1 : Int, ∀ w, (Instr.index 34 (.agg #[.int .i64 x, .int .i64 y, .int .i64 lo, .int .i64 up]) (.int .i64 (j : Int))).run Try.prog w = .ok (.agg #[.int .i64 t0, .int .i64 t1]) w := by
              obtain rfl | rfl : j = 0 ∨ j = 1 := by omega
              · exact ⟨x, y, fun _ => by kernel_rfl⟩
              · exact ⟨lo, up, fun _ => by kernel_rfl⟩
            obtain ⟨t0, t1, hjr⟩ := hjx
            have hjl : decide ((j : Int) < 2) = true := by simp; omega
            have hs2 := hs1.keep hC
            obtain ⟨⟨q0, q1, q2⟩, hq⟩ : ∃ q, evR L t0 t1 = q := ⟨_, rfl⟩
            have hs3 := hs2.keep ((Below.refl _ _).alloc (Nat.le_refl _) (.cells #[.int .i64 t0, .int .i64 t1] 24))
            have t3 : B2 (wr.alloc (.cells #[.int .i64 t0, .int .i64 t1] 24)) wr.heap.size t0 t1 := ⟨by simp, by simp⟩
            clear hs1 hs2
            go_wp2_with fail
            go_at_call 13
            refine (polyEval_eq hs3 hq).mono ?_
            rintro e W2 ⟨rfl, hb2⟩
            first | (replace hb2 := undrewQ hb2) | skip
            have hs4 := (hs3.keep hb2).keep ((Below.refl _ _).alloc (Nat.le_refl _) (.cells #[.int .i64 q0, .int .i64 q1] 24))
            obtain ⟨t4, t5⟩ := t3.keep hb2
            have C2 : Below wc.heap.size wc W2 := (hC.alloc hC.size _).trans (hb2.mono (by have := hC.size; simp; omega))
            have lt2 : wr.heap.size < W2.heap.size := by have := hb2.size; simp at this; omega
            have v3 : B2 (W2.alloc (.cells #[.int .i64 q0, .int .i64 q1] 24)) W2.heap.size q0 q1 := ⟨by simp, by simp⟩
            clear hs3 t3 hC hb2 hjr
            go_wp2_with fail
            go_at_call 14
            refine (refEval_eq hs4 hq).mono ?_
            rintro e W3 ⟨rfl, hb3⟩
            first | (replace hb3 := undrewQ hb3) | skip
            obtain ⟨v4, v5⟩ := v3.keep hb3
            have C3 : Below wc.heap.size wc W3 := (C2.alloc C2.size _).trans (hb3.mono (by have := C2.size; simp; omega))
            have lt3 : W2.heap.size < W3.heap.size := by have := hb3.size; simp at this; omega
            clear hs4 v3 C2 hb3 hq t4 t5
            go_wp2
            refine ⟨⟨j + 1, by simp, by omega, C3.alloc C3.size _⟩, ?_⟩
            simp [intOf]; omega
set_option maxRecDepth 100000 in
set_option maxHeartbeats 4000000 in
theorem polySlopes_true (va : Value) (l : List (Int × Int)) (x y : Int) (vD : Value) (D : List (Int × Int × Int)) (dx dy dz : Int) (w : World) (ha : Sn w va l) (_hl : l.length ≤ 9223372036854775807) (hD : Dn w vD D) (hd : 0 ≤ dy ∧ dy ≤ 255 ∧ 0 ≤ dz ∧ dz ≤ 4294967295) :
    Calls Try.prog 4 #[va, .agg #[.int .i64 x, .int .i64 y], vD, .agg #[.int .i64 dx, .int .u8 dy, .int .u32 dz]] w fun r w' => r = .returned (.bool true) ∧ Below w.heap.size w w' := by
  obtain ⟨lo, up, _, hw⟩ := drSmall_bd dx dy dz hd.1 hd.2.1 hd.2.2.1 hd.2.2.2
  clear hd
  have a0 := ((Below.refl w.heap.size w).alloc (Nat.le_refl _) (.cells #[.int .i64 x, .int .i64 y] 24)).alloc (by simp) (.cells #[.int .i64 dx, .int .u8 dy, .int .u32 dz] 28)
  have p0 : B2 ((w.alloc (.cells #[.int .i64 x, .int .i64 y] 24)).alloc (.cells #[.int .i64 dx, .int .u8 dy, .int .u32 dz] 28)) w.heap.size x y := ⟨by simp, by simp⟩
  have d0 : B3 ((w.alloc (.cells #[.int .i64 x, .int .i64 y] 24)).alloc (.cells #[.int .i64 dx, .int .u8 dy, .int .u32 dz] 28)) (w.heap.size + 1) dx dy dz := by
    have := B3.new (w.alloc (.cells #[.int .i64 x, .int .i64 y] 24)) dx dy dz 28
    rw [World.size_alloc] at this; exact this
  have ha0 := ha.keep a0
  have hD0 := hD.keep a0
  go_enter Try.func4, Try.ntmps4
  go_wp2_with fail
  go_at_call 9
  refine (works_true _).mono ?_
  rintro e V ⟨rfl, hb1⟩
  have sV := ha0.keep hb1
  have tV := hD0.keep hb1
  have pV := p0.keep hb1
  have dV := d0.keep hb1
  have aV : Below w.heap.size w V := a0.trans (hb1.mono (by simp; omega))
  clear ha hD a0 p0 d0 ha0 hD0 hb1
  go_wp2_with fail
  go_at_call 10
  refine (few_any va l V sV).mono ?_
  rintro e V1 ⟨u1, rfl, sn1, hb1⟩
  replace tV := tV.keep hb1
  replace pV := pV.keep hb1
  replace dV := dV.keep hb1
  replace aV : Below w.heap.size w V1 := aV.trans (hb1.mono aV.size)
  clear sV hb1
  go_wp2_with fail
  go_at_call 11
  refine (coefsS_any vD D _ tV).mono ?_
  rintro e V2 ⟨hb2, u2, r2, rfl, own2, _, _, _⟩
  have sn2 : Sn V2 u2 r2 := Sn.own own2
  replace sn1 := sn1.keep hb2
  replace tV := tV.keep hb2
  replace pV := pV.keep hb2
  replace dV := dV.keep hb2
  replace aV : Below w.heap.size w V2 := aV.trans (hb2.mono aV.size)
  clear own2 hb2
  go_wp2_with fail
  go_at_call 11
  refine (coefsB_any vD D _ tV).mono ?_
  rintro e V3 ⟨hb3, u3, r3, rfl, own3, _, _, _⟩
  have sn3 : Sn V3 u3 r3 := Sn.own own3
  replace sn1 := sn1.keep hb3
  replace sn2 := sn2.keep hb3
  replace pV := pV.keep hb3
  replace dV := dV.keep hb3
  replace aV : Below w.heap.size w V3 := aV.trans (hb3.mono aV.size)
  clear own3 hb3 tV
  obtain ⟨a1, n1, c1, rfl⟩ := sn_slice sn1
  obtain ⟨a2, n2, c2, rfl⟩ := sn_slice sn2
  obtain ⟨a3, n3, c3, rfl⟩ := sn_slice sn3
  go_wp2
  go_loopw [26] (fun i wr => ∃ k : Nat, i = .int .i64 (k : Int) ∧ k ≤ 3 ∧ Below V3.heap.size V3 wr)
    (fun i _ => 3 - (intOf i).toNat)
  case atStart => exact ⟨0, rfl, by omega, Below.refl _ _⟩
  case round =>
    obtain ⟨k, rfl, hk, hB⟩ := hrel
    replace sn1 := sn1.keep hB
    replace sn2 := sn2.keep hB
    replace sn3 := sn3.keep hB
    replace pV := pV.keep hB
    replace dV := dV.keep hB
    have aW : Below w.heap.size w wr := aV.trans (hB.mono aV.size)
    obtain ⟨p0, p1⟩ := pV
    obtain ⟨d0, d1, d2⟩ := dV
    by_cases hk3 : k = 3
    · subst hk3
      go_wp2
      go_ret
      exact ⟨rfl, by (repeat (first | with_reducible exact Below.refl _ _ | with_reducible assumption | refine Below.alloc ?_ (by (try simp); try omega) _ | refine Below.setCell ?_ (by (try simp); try omega) _ | refine below_drewN ?_ _ | refine Below.drew ?_ | (with_reducible refine Below.trans ?_ (Below.mono (by assumption) (by (try simp); try omega)))))⟩
    · have hsn : ∃ uu L, Sn wr uu L ∧ ∀ w, (Instr.index 32 (.agg #[.slice a1 n1 c1, .slice a2 n2 c2, .slice a3 n3 c3]) (.int .i64 (k : Int))).run Try.prog w = .ok uu w := by
        obtain rfl | rfl | rfl : k = 0 ∨ k = 1 ∨ k = 2 := by omega
        · exact ⟨_, _, sn1, fun _ => by kernel_rfl⟩
        · exact ⟨_, _, sn2, fun _ => by kernel_rfl⟩
        · exact ⟨_, _, sn3, fun _ => by kernel_rfl⟩
      obtain ⟨uu, L, hs, hidx⟩ := hsn
      have hk4 : k < 3 := by omega
      have hkl : decide ((k : Int) < 3) = true := by simp; omega
      have hlw : w.heap.size + 1 < wr.heap.size := by
        have := World.block_lt_of_cell? wr _ d0
        simpa using this
      clear sn1 sn2 sn3
      go_upto_region 6 with fail
      go_cut [32, 33] from 27 (fun v32 v33 wx => v32 = .agg #[.int .i64 x, .int .i64 y, .int .i64 lo, .int .i64 up] ∧ v33 = .int .i64 0 ∧ Below wr.heap.size wr wx)
      case first =>
        go_wp2_with fail
        go_region_with (go_at_call 12; (with_reducible refine (hw _).mono ?_); rintro e W1 ⟨rfl, hb1⟩; replace hb1 := undrewQ hb1; have e0 := bkeep hb1 p0; have e1 := bkeep hb1 p1)
        all_goals (go_wp2_with fail; go_meet)
        all_goals exact ⟨rfl, rfl, hb1⟩
      case rest =>
        obtain ⟨rfl, rfl, hb1⟩ := hcut
        have hs1 := hs.keep hb1
        have aW1 : Below w.heap.size w wc := aW.trans (hb1.mono aW.size)
        have bW1 : Below V3.heap.size V3 wc := hB.trans (hb1.mono hB.size)
        clear hw hs hidx hb1 p0 p1 d0 d1 d2 aW hB
        go_wp2
        go_loopw [33] (fun i wr => ∃ j : Nat, i = .int .i64 (j : Int) ∧ j ≤ 2 ∧ Below wc.heap.size wc wr)
          (fun i _ => 2 - (intOf i).toNat)
        case atStart => exact ⟨0, rfl, by omega, Below.refl _ _⟩
        case round =>
          obtain ⟨j, rfl, hj, hC⟩ := hrel
          by_cases hj2 : j = 2
          · subst hj2
            go_wp2
            refine ⟨⟨k + 1, by simp, by omega, bW1.trans (hC.mono bW1.size)⟩, ?_⟩
            simp [intOf]; omega
          · have hjx : ∃ t0 t1 : Int, ∀ w, (Instr.index 34 (.agg #[.int .i64 x, .int .i64 y, .int .i64 lo, .int .i64 up]) (.int .i64 (j : Int))).run Try.prog w = .ok (.agg #[.int .i64 t0, .int .i64 t1]) w := by
              obtain rfl | rfl : j = 0 ∨ j = 1 := by omega
              · exact ⟨x, y, fun _ => by kernel_rfl⟩
              · exact ⟨lo, up, fun _ => by kernel_rfl⟩
            obtain ⟨t0, t1, hjr⟩ := hjx
            have hjl : decide ((j : Int) < 2) = true := by simp; omega
            have hs2 := hs1.keep hC
            obtain ⟨⟨q0, q1, q2⟩, hq⟩ : ∃ q, slR L t0 t1 = q := ⟨_, rfl⟩
            have hs3 := hs2.keep ((Below.refl _ _).alloc (Nat.le_refl _) (.cells #[.int .i64 t0, .int .i64 t1] 24))
            have t3 : B2 (wr.alloc (.cells #[.int .i64 t0, .int .i64 t1] 24)) wr.heap.size t0 t1 := ⟨by simp, by simp⟩
            clear hs1 hs2
            go_wp2_with fail
            go_at_call 15
            refine (polySlope_eq hs3 hq).mono ?_
            rintro e W2 ⟨rfl, hb2⟩
            first | (replace hb2 := undrewQ hb2) | skip
            have hs4 := (hs3.keep hb2).keep ((Below.refl _ _).alloc (Nat.le_refl _) (.cells #[.int .i64 q0, .int .i64 q1] 24))
            obtain ⟨t4, t5⟩ := t3.keep hb2
            have C2 : Below wc.heap.size wc W2 := (hC.alloc hC.size _).trans (hb2.mono (by have := hC.size; simp; omega))
            have lt2 : wr.heap.size < W2.heap.size := by have := hb2.size; simp at this; omega
            have v3 : B2 (W2.alloc (.cells #[.int .i64 q0, .int .i64 q1] 24)) W2.heap.size q0 q1 := ⟨by simp, by simp⟩
            clear hs3 t3 hC hb2 hjr
            go_wp2_with fail
            go_at_call 16
            refine (refSlope_eq hs4 hq).mono ?_
            rintro e W3 ⟨rfl, hb3⟩
            first | (replace hb3 := undrewQ hb3) | skip
            obtain ⟨v4, v5⟩ := v3.keep hb3
            have C3 : Below wc.heap.size wc W3 := (C2.alloc C2.size _).trans (hb3.mono (by have := C2.size; simp; omega))
            have lt3 : W2.heap.size < W3.heap.size := by have := hb3.size; simp at this; omega
            clear hs4 v3 C2 hb3 hq t4 t5
            go_wp2
            refine ⟨⟨j + 1, by simp, by omega, C3.alloc C3.size _⟩, ?_⟩
            simp [intOf]; omega
end Go.Proofs.Ytdaignklmbmcnaa
