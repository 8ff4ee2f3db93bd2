/-
  Boxes written anew; the helpers made, own, size.
-/
import Derived.Test.YtoppdbgodceaiaaDoorLhF
import Derived.Deep.AppendLies
import Derived.Deep.RegionLaw
import Derived.BigRegion
namespace Go.Proofs.YtoppdbgodceaiaaDoor
open Go.RowKit

theorem undrew3 {w w' : World} (h : Below w.drew.heap.size w.drew w') : Below w.heap.size w w' := (Below.refl w.heap.size w).drew.trans h
theorem lkeepB {w w' : World} {p : Addr} {v : Value} {B : Nat} (hb : Below B w w') (hp : p.block < B) (h : w.cell? p = some v) : w'.cell? p = some v := (hb.cell hp).trans h
theorem Bx.putP {w : World} {g : Nat} {x y : Value} {t : TypeId} (h : Bx w g x y t) (x' y' : Value) : Bx ((w.setCell ⟨g, 0, none⟩ x').setCell ⟨g, 1, none⟩ y') g x' y' t := (h.set0 x').set1 y'
theorem Bx.farP {w : World} {g h : Nat} {x y : Value} {t : TypeId} (k : Bx w h x y t) (hn : h ≠ g) (x' y' : Value) : Bx ((w.setCell ⟨g, 0, none⟩ x').setCell ⟨g, 1, none⟩ y') h x y t := (k.other hn x').other hn y'
theorem Lg.put {w : World} {V : Value} {z : Int} (L : Lg w V z) {g : Nat} {p : Bool} {a : Option Addr} {n k : Nat} {t : TypeId} (b : Bx w g (.bool p) (.slice a n k) t) (p' : Bool) (a' : Option Addr) (n' k' : Nat) : Lg ((w.setCell ⟨g, 0, none⟩ (.bool p')).setCell ⟨g, 1, none⟩ (.slice a' n' k')) V z := by
  obtain ⟨s, rfl, h⟩ := L
  exact ⟨s, rfl, h.boxed b (nb _) (ns _ _ _) _⟩

theorem made_lg {ng : Bool} {a : List Int} {k : Nat} {w : World} {v : Value} (da : Dg a) (hk : k ≤ a.length) (Ho : a.take k = dg (vl a)) (hv : Ls w v (a.take k)) :
    Lg w (.agg #[.bool (ng && decide ((0 : Int) < (k : Int))), v]) (if ng then -(vl a) else vl a) := by
  have v0 := vl_nonneg da
  have e : (((if ng then -(vl a) else vl a) : Int).natAbs : Int) = vl a := by cases ng <;> simp <;> omega
  refine ⟨v, ?_, by rw [e, ← Ho]; exact hv⟩
  have hl : (dg (vl a)).length = k := by rw [← Ho, List.length_take]; omega
  have h1 : 0 < k ↔ 0 < vl a := by
    constructor
    · intro h
      rcases (by omega : vl a = 0 ∨ 0 < vl a) with h' | h'
      · rw [h', dg_zero] at hl; simp at hl; omega
      · exact h'
    · intro h
      have := dg_len_pos h
      omega
  congr 3
  cases ng
  · simp; omega
  · simp
    constructor <;> intro h <;> omega

theorem own_heap {w w' : World} {base : Nat} {e : TypeId} {size : Nat} {v : Value} {n : Nat} {xs : List Value} (h : w.ownsRow base e size v n xs) (hh : w'.heap = w.heap) : w'.ownsRow base e size v n xs := by
  unfold World.ownsRow at *
  rw [hh]; exact h
theorem news_heap {w w' : World} (x : Value) (t : TypeId) (hh : w'.heap = (w.alloc (.cells #[x] t)).heap) : ∀ (j : Nat) (u : Value), [x][j]? = some u → w'.cell? (Addr.add ⟨w.heap.size, 0, none⟩ j) = some u := by
  intro j u h
  have := one_at w x t j u h
  rw [← this]
  exact World.cell?_of_block (by rw [hh])
set_option maxRecDepth 100000 in
set_option maxHeartbeats 2000000 in
theorem made_any (ng : Bool) (va : Value) (a : List Int) (w : World) (ha : Ls w va a) (da : Dg a) (la : a.length ≤ 100000) :
    Calls Tryd.prog 63 #[.bool ng, va] w fun e w' => LgV (if ng then -(vl a) else vl a) e w' ∧ Below w.heap.size w w' := by
  obtain ⟨i0, hi, hz0, hz1, hz2⟩ := info_parts Tryd.infoInt
  obtain ⟨pa, ca, rfl, ⟨hca', hna⟩, hpa⟩ := ha
  have hdone : ∀ n, n ≤ a.length → (∀ j, n ≤ j → el a j = 0) → (n = 0 ∨ el a (n - 1) ≠ 0) → Hid (a.take n = dg (vl a)) := fun n h1 h2 h3 => Lib.hid (trim_dg da n h1 h2 h3)
  have bR : Bx (w.alloc (.cells #[.bool false, .slice none 0 0] 24)) w.heap.size (.bool false) (.slice none 0 0) 24 := Bx.new w _ _ _
  have a1 := Below.alloc (Below.refl w.heap.size w) (Nat.le_refl _) (.cells #[.bool false, .slice none 0 0] 24)
  have hsz : (w.alloc (.cells #[.bool false, .slice none 0 0] 24)).heap.size = w.heap.size + 1 := by simp
  generalize hw1 : w.alloc (.cells #[.bool false, .slice none 0 0] 24) = w1 at *
  go_enter Tryd.func63, Tryd.ntmps63
  go_wp2
  go_loopw [5] (fun i wr => ∃ (k : Nat), i = .int .i64 k ∧ k ≤ a.length ∧ (∀ j, k ≤ j → el a j = 0) ∧ w1 = wr)
    (fun i _ => (intOf i).toNat)
  case atStart => exact ⟨a.length, rfl, Nat.le_refl _, fun j hj => el_out hj, by rw [← hw1]⟩
  case round =>
    obtain ⟨k, rfl, hk, hz, rfl⟩ := hrel
    by_cases hx0 : k = 0 ∨ el a (k - 1) ≠ 0
    · have Ho := hdone k hk hz hx0
      have bO : ∀ p : Bool, Bx (w1.alloc (.cells #[.bool p, .slice none 0 0] 24)) (w.heap.size + 1) (.bool p) (.slice none 0 0) 24 := fun p => by
        have := Bx.new w1 (.bool p) (.slice none 0 0) 24
        rwa [hsz] at this
      have a2 : ∀ p : Bool, Below (w.heap.size + 1) w1 (w1.alloc (.cells #[.bool p, .slice none 0 0] 24)) := fun p => Below.alloc (Below.refl _ _) (by omega) _
      have hcl := fun W (h : Below w.heap.size w W) (i : Nat) (hi : i < a.length) => show ∃ b off, pa = some ⟨b, off, none⟩ ∧ b < w.heap.size ∧ W.cell? ⟨b, off + i, none⟩ = some (.int .i64 (el a i)) from by
        obtain ⟨b, off, e, hc⟩ := hpa (by omega)
        exact ⟨b, off, e, World.block_lt_of_cell? w _ (hc i hi), lkeep h (hc i hi)⟩
      clear hdone hz hw1
      rcases Nat.eq_zero_or_pos k with h0 | h0
      · subst h0
        clear hpa hcl
        have bR2 : Bx (w1.alloc (.cells #[.bool false, .slice none 0 0] 24)) w.heap.size (.bool false) (.slice none 0 0) 24 := bR.alloc _
        have r0 := bR.c0
        have r1 := bR.c1
        have z0 := bR.f 0
        have z1 := bR.f 1
        have lR := bR.lt
        have hL := fun W => made_lg (ng := ng) (w := W) (v := .slice none 0 0) da hk Ho.out (Ls.nil W)
        have HL := Lib.hid hL
        clear hL hx0
        cases ng
        all_goals
          go_wp2
          refine wp_loop_rounds 1 ?_
          rw [rounds_succ]
          go_wp2
          refine bodyPost_ret (v := .agg #[.bool false, .slice none 0 0]) (by simp [results, Tryd.results63, go_sem, *]) rfl ⟨⟨_, _, _, _, rfl, by simpa using HL.out _⟩, by (repeat (first | with_reducible exact Below.refl _ _ | with_reducible assumption | refine Below.alloc ?_ (by (try simp); try omega) _ | refine Below.setCell ?_ (by (try simp); try omega) _ | refine below_drewN ?_ _ | refine Below.drew ?_ | (with_reducible refine Below.trans ?_ (Below.mono (by assumption) (by (try simp); try omega)))))⟩
      · have hkx : el a (k - 1) ≠ 0 := by omega
        obtain ⟨ba, oa, rfl, hca⟩ := hpa (by omega)
        have hck := lkeep a1 (hca (k - 1) (by omega))
        obtain ⟨x, hx⟩ : ∃ x, el a (k - 1) = x := ⟨_, rfl⟩
        rw [hx] at hck hkx
        have HX := Lib.hid hx
        have hkI : (0 : Int) < (k : Int) := by omega
        obtain ⟨Z, hZ⟩ : ∃ Z, (if ng then -(vl a) else vl a) = Z := ⟨_, rfl⟩
        have HL : Hid (∀ W u P, P = (ng && decide ((0 : Int) < (k : Int))) → Ls W u (a.take k) → Lg W (.agg #[.bool P, u]) Z) := Lib.hid fun W u P e h => by
          subst e
          rw [← hZ]
          exact made_lg da hk Ho.out h
        have HZ := Lib.hid hZ
        clear hZ
        have hba := World.block_lt_of_cell? w _ (hca 0 (by omega))
        have hdk : decide ((0 : Int) < (k : Int)) = true := by simpa using hkI
        clear hx hx0 hcl hpa
        cases ng
        all_goals
          go_wp2
          go_loopw [7] (fun i wr => ∃ (n : Nat) (v : Value) (P : Bool), i = .int .i64 n ∧ n ≤ k ∧ Bx wr (w.heap.size + 1) (.bool P) v 24 ∧ wr.ownsRow (w.heap.size + 2) 3 1 v n ((a.take n).map (Value.int .i64)) ∧ Below (w.heap.size + 1) w1 wr ∧ Hid (∀ W u, Ls W u (a.take k) → Lg W (.agg #[.bool P, u]) Z))
            (fun i _ => k - (intOf i).toNat)
          case atStart => exact ⟨0, _, _, rfl, by omega, bO _, World.ownsRow_nil _ _ _ _, a2 _, Lib.hid fun W u h => HL.out W u _ (by simp; try exact h0) h⟩
          case round =>
            obtain ⟨n, v, P, rfl, hn, bx, hown, hnx, hp⟩ := hrel
            have hB : Below w.heap.size w wr := a1.trans (hnx.mono (by omega))
            by_cases hlt : n < k
            · have hcn := lkeep hB (hca n (by omega))
              have eT : (a.take (n + 1)).map (Value.int .i64) = (a.take n).map (Value.int .i64) ++ [.int .i64 (el a n)] := by
                rw [List.take_add_one, List.map_append, List.getElem?_eq_getElem (by omega), el_eq, List.getD_eq_getElem?_getD, List.getElem?_eq_getElem (by omega)]; rfl
              obtain ⟨y, hy⟩ : ∃ y, el a n = y := ⟨_, rfl⟩
              rw [hy] at hcn eT
              have HT := Lib.hid eT
              have r1 := bx.c1
              have hwr : w.heap.size + 2 ≤ wr.heap.size := bx.lt
              clear hck hca hy eT a2 bO bR hdk
              go_wp2_with fail
              have b1 : (n : Int) < (a.length : Int) := by omega
              have b0 : (0 : Int) ≤ (n : Int) := by omega
              have b2 : n < a.length := by omega
              have r1a : (wr.alloc (.cells #[.int .i64 y] 3)).cell? ⟨w.heap.size + 1, 1, none⟩ = some v := lkeep (by (repeat (first | with_reducible exact Below.refl _ _ | with_reducible assumption | refine Below.alloc ?_ (by (try simp); try omega) _ | refine Below.setCell ?_ (by (try simp); try omega) _ | refine below_drewN ?_ _ | refine Below.drew ?_ | (with_reducible refine Below.trans ?_ (Below.mono (by assumption) (by (try simp); try omega)))))) r1
              have ne1 : w.heap.size + 1 ≠ wr.heap.size := by omega
              have ne2 := ne1.symm
              have lt1 : w.heap.size + 1 < wr.heap.size := by omega
              go_region_law ((refine step_append_lies _ (by rfl) _ _ _ (by rfl) (w.heap.size + 2) 3 i0 (.int .i64 0) 1 8 Tryd.underlying22 hi hz0 hz1 hz2 rfl (by decide) v n ((a.take n).map (Value.int .i64)) (by rfl) (by exact own_heap (hown.alloc (.cells #[.int .i64 y] 3)) rfl) ⟨wr.heap.size, 0, none⟩ 1 1 [.int .i64 y] (by rfl) (by rfl) (by exact news_heap (w := wr) (.int .i64 y) 3 rfl) (one_cell _ _) (by omega) (by unfold maxLen; omega) (by omega) (by simp; omega) (wr.heap.size + 1) (by simp) ?_; intro gg cap w2 hown' hgrow hat hlt2; have hb2 : Below (w.heap.size + 2) wr w2 := Below.grown (by (repeat (first | with_reducible exact Below.refl _ _ | with_reducible assumption | refine Below.alloc ?_ (by (try simp); try omega) _ | refine Below.setCell ?_ (by (try simp); try omega) _ | refine below_drewN ?_ _ | refine Below.drew ?_ | (with_reducible refine Below.trans ?_ (Below.mono (by assumption) (by (try simp); try omega)))))) hgrow (by simp; omega) (fun k hk => (hown.lt k hk).1); have bx2 := bx.keepB hb2 (by omega); have r2 := bx2.c1; have z2 := bx2.f 1; have lx2 := bx2.lt))
              all_goals
                clear r1 r1a
                go_wp2
                go_roundw
                case rel =>
                  exact ⟨n + 1, _, P, by simp, by omega, bx2.set1 _, ownsRow_setCell_below (by rw [HT.out]; exact hown') (show w.heap.size + 1 < w.heap.size + 2 by omega) _, (hnx.trans (hb2.mono (by omega))).setCell (Nat.le_refl _) _, hp⟩
                case measure => simp [intOf]; omega
            · have en : n = k := by omega
              subst en
              have hrow : wr.ownsRow (w.heap.size + 2) 3 1 v (a.take n).length ((a.take n).map (Value.int .i64)) := by
                rw [List.length_take, Nat.min_eq_left hk]; exact hown
              have hls := Ls.own hrow
              have hls' := hls
              obtain ⟨pv, cv, rfl, _, _⟩ := hls
              have hnl : (a.take n).length = n := by rw [List.length_take, Nat.min_eq_left hk]
              rw [hnl] at hls' bx
              have bR' := bR.keepB hnx (by omega)
              have r0 := bx.c0
              have r1 := bx.c1
              have q0 := bR'.c0
              have q1 := bR'.c1
              have z0 := bR'.f 0
              have z1 := bR'.f 1
              have lR := bR'.lt
              have hfin := hp.out _ _ (hls'.boxed bR' (p := P) (nb _) (ns _ _ _) (.slice pv n cv))
              have Hfin := Lib.hid hfin
              clear hfin hls' hown hrow hck hca hp a2 bO bR hdk a1 hn
              go_wp2
              refine bodyPost_ret (v := .agg #[.bool P, .slice pv n cv]) (by simp [results, Tryd.results63, go_sem, *]) rfl ⟨⟨_, _, _, _, rfl, by have h := Hfin.out; rw [← HZ.out] at h; simpa using h⟩, by (repeat (first | with_reducible exact Below.refl _ _ | with_reducible assumption | refine Below.alloc ?_ (by (try simp); try omega) _ | refine Below.setCell ?_ (by (try simp); try omega) _ | refine below_drewN ?_ _ | refine Below.drew ?_ | (with_reducible refine Below.trans ?_ (Below.mono (by assumption) (by (try simp); try omega)))))⟩
    · obtain ⟨ba, oa, rfl, hca⟩ := hpa (by omega)
      have hck := lkeep a1 (hca (k - 1) (by omega))
      obtain ⟨x, hx⟩ : ∃ x, el a (k - 1) = x := ⟨_, rfl⟩
      rw [hx] at hck
      have x0 : x = 0 := by rw [hx] at hx0; omega
      have hk0 : k ≠ 0 := by omega
      subst x0
      replace hx := Lib.hid hx
      clear hdone hca hw1 hx0
      go_wp2
      go_roundw
      case rel =>
        refine ⟨k - 1, by congr 1; omega, by omega, fun j hj => ?_, trivial⟩
        rcases Nat.lt_or_ge j k with h | h
        · rw [show j = k - 1 by omega, hx.out]
        · exact hz j h
      case measure => simp [intOf]; omega

set_option maxRecDepth 100000 in
set_option maxHeartbeats 1000000 in
theorem own_any (b : Bool) (s : Value) (l : List Int) (w : World) (h : Ls w s l) (hl : l.length ≤ 9223372036854775807) :
    Calls Tryd.prog 28 #[.agg #[.bool b, s]] w fun e w' => ∃ a n c, e = .returned (.agg #[.bool b, .slice a n c]) ∧ Ls w' (.slice a n c) (l.take 60) ∧ Below w.heap.size w w' := by
  have a1 := Below.alloc (Below.refl w.heap.size w) (Nat.le_refl _) (.cells #[.bool b, s] 24)
  have a2 := Below.alloc a1 a1.size (.cells #[.bool false, .slice none 0 0] 24)
  obtain ⟨pa, ca, rfl, ⟨hca', hna⟩, hpa⟩ := h
  obtain ⟨k, hk⟩ : ∃ k, min l.length 60 = k := ⟨_, rfl⟩
  have hmin : min (l.length : Int) 60 = (k : Int) := by omega
  have hk0 : k ≤ l.length := by omega
  have hkc : k ≤ ca := by omega
  have hT : Ls w (.slice pa k ca) (l.take 60) := by
    have e : (l.take 60).length = k := by rw [List.length_take]; omega
    refine ⟨pa, ca, by rw [e], ⟨by omega, hna⟩, fun h0 => ?_⟩
    obtain ⟨bb, off, rfl, hc⟩ := hpa (by omega)
    exact ⟨bb, off, rfl, fun i hi => by rw [hc i (by omega), el_take (by omega)]⟩
  have htl : (l.take 60).length ≤ 100000 := by rw [List.length_take]; omega
  have hn0 : pa = none → k = 0 := fun h => by have := hna h; omega
  generalize l.take 60 = t at *
  generalize l.length = len at *
  clear hpa hk
  have bA : Bx ((w.alloc (.cells #[.bool b, .slice pa len ca] 24)).alloc (.cells #[.bool false, .slice none 0 0] 24)) w.heap.size (.bool b) (.slice pa len ca) 24 := (Bx.new w _ _ _).alloc _
  have bR : Bx ((w.alloc (.cells #[.bool b, .slice pa len ca] 24)).alloc (.cells #[.bool false, .slice none 0 0] 24)) (w.heap.size + 1) (.bool false) (.slice none 0 0) 24 := by
    have := Bx.new (w.alloc (.cells #[.bool b, .slice pa len ca] 24)) (.bool false) (.slice none 0 0) 24
    simpa using this
  go_enter Tryd.func28, Tryd.ntmps28
  go_wp2_with fail
  go_at_call 59
  refine (cloneI _ t _ (hT.keep a2) htl).mono ?_
  rintro e w1 ⟨u, rfl, hu, hb⟩
  replace bA := bA.keep hb
  replace bR := bR.keep hb
  have hB : Below w.heap.size w w1 := by (repeat (first | with_reducible exact Below.refl _ _ | with_reducible assumption | refine Below.alloc ?_ (by (try simp); try omega) _ | refine Below.setCell ?_ (by (try simp); try omega) _ | refine below_drewN ?_ _ | refine Below.drew ?_ | (with_reducible refine Below.trans ?_ (Below.mono (by assumption) (by (try simp); try omega)))))
  have hu' := hu
  obtain ⟨pu, cu, rfl, _, _⟩ := hu
  clear hb a1 a2 hT
  have r0 := bA.c0
  have r1 := bA.c1
  have z0 := bA.f 0
  have z1 := bA.f 1
  have q0 := bR.c0
  have q1 := bR.c1
  have y0 := bR.f 0
  have y1 := bR.f 1
  have lR := bR.lt
  have lA := bA.lt
  have hfin : Ls (((w1.setCell ⟨w.heap.size, 1, none⟩ (.slice pu t.length cu)).setCell ⟨w.heap.size + 1, 0, none⟩ (.bool b)).setCell ⟨w.heap.size + 1, 1, none⟩ (.slice pu t.length cu)) (.slice pu t.length cu) t :=
    (hu'.box bA (nb _) (ns _ _ _) _).boxed (bR.other (by omega) _) (nb _) (ns _ _ _) _
  have Hfin := Lib.hid hfin
  clear hfin hu'
  go_wp2
  refine bodyPost_ret (v := .agg #[.bool b, .slice pu t.length cu]) (by simp [results, Tryd.results28, go_sem, *]) rfl ⟨_, _, _, rfl, Hfin.out, by (repeat (first | with_reducible exact Below.refl _ _ | with_reducible assumption | refine Below.alloc ?_ (by (try simp); try omega) _ | refine Below.setCell ?_ (by (try simp); try omega) _ | refine below_drewN ?_ _ | refine Below.drew ?_ | (with_reducible refine Below.trans ?_ (Below.mono (by assumption) (by (try simp); try omega)))))⟩

set_option maxRecDepth 100000 in
set_option maxHeartbeats 1000000 in
theorem size_num (A : Value) (z : Int) (w : World) (hA : Lg w A z) :
    Calls Tryd.prog 54 #[A] w fun e w' => LgV (z.natAbs : Int) e w' ∧ Below w.heap.size w w' := by
  obtain ⟨s, rfl, pa, ca, rfl, hq⟩ := hA
  have hL : Ls w (.slice pa (dg (z.natAbs : Int)).length ca) (dg (z.natAbs : Int)) := ⟨pa, ca, rfl, hq⟩
  have hX : ∀ w', Ls w' (.slice pa (dg (z.natAbs : Int)).length ca) (dg (z.natAbs : Int)) → Lg w' (.agg #[.bool false, .slice pa (dg (z.natAbs : Int)).length ca]) (z.natAbs : Int) := fun w' h =>
    ⟨_, by rw [show decide ((z.natAbs : Int) < 0) = false by simp], by rw [show (((z.natAbs : Int).natAbs : Nat) : Int) = (z.natAbs : Int) by omega]; exact h⟩
  generalize (dg (z.natAbs : Int)).length = n at *
  generalize decide (z < 0) = b at *
  have hfin := hX ((w.alloc (.cells #[.bool false, .slice pa n ca] 24)).alloc (.cells #[.bool false, .slice pa n ca] 24)) (hL.keep (by (repeat (first | with_reducible exact Below.refl _ _ | with_reducible assumption | refine Below.alloc ?_ (by (try simp); try omega) _ | refine Below.setCell ?_ (by (try simp); try omega) _ | refine below_drewN ?_ _ | refine Below.drew ?_ | (with_reducible refine Below.trans ?_ (Below.mono (by assumption) (by (try simp); try omega)))))))
  have Hfin := Lib.hid hfin
  clear hfin hX hL hq
  go_enter Tryd.func54, Tryd.ntmps54
  go_wp2
  refine bodyPost_ret (v := .agg #[.bool false, .slice pa n ca]) (by simp [results, Tryd.results54, go_sem]) rfl ⟨⟨_, _, _, _, rfl, Hfin.out⟩, by (repeat (first | with_reducible exact Below.refl _ _ | with_reducible assumption | refine Below.alloc ?_ (by (try simp); try omega) _ | refine Below.setCell ?_ (by (try simp); try omega) _ | refine below_drewN ?_ _ | refine Below.drew ?_ | (with_reducible refine Below.trans ?_ (Below.mono (by assumption) (by (try simp); try omega)))))⟩
end Go.Proofs.YtoppdbgodceaiaaDoor
