/-
  The reference: made in memory of its own; taken.
-/
import Derived.Test.YtoppdbgodceaiaaDoorLrF
import Derived.Deep.LoopGhost
namespace Go.Proofs.YtoppdbgodceaiaaDoor
open Go.RowKit

theorem own_low {w : World} {base base' : Nat} {e : TypeId} {size : Nat} {v : Value} {n : Nat} {xs : List Value} (h : w.ownsRow base e size v n xs) (hb : base' ≤ base) : w.ownsRow base' e size v n xs := by
  obtain ⟨h1, h2⟩ := h
  refine ⟨h1, ?_⟩
  rcases h2 with h2 | ⟨g, cap, cur, h3, h4, h5⟩
  · exact .inl h2
  · exact .inr ⟨g, cap, cur, h3, by omega, h5⟩
theorem own_keep {w w' : World} {base : Nat} {e : TypeId} {size : Nat} {v : Value} {n : Nat} {xs : List Value} (h : w.ownsRow base e size v n xs) (hb : Below w.heap.size w w') : w'.ownsRow base e size v n xs := by
  obtain ⟨h1, h2⟩ := h
  refine ⟨h1, ?_⟩
  rcases h2 with h2 | ⟨g, cap, cur, h3, h4, h5, h6⟩
  · exact .inl h2
  · exact .inr ⟨g, cap, cur, h3, h4, by rw [hb.block g (Array.getElem?_eq_some_iff.1 h5).1]; exact h5, h6⟩
set_option maxRecDepth 100000 in
set_option maxHeartbeats 2000000 in
theorem made_row (va : Value) (a : List Int) (w : World) (ha : Ls w va a) (da : Dg a) (la : a.length ≤ 100000) :
    Calls Tryd.prog 63 #[.bool false, va] w fun e w' => (∃ v, e = .returned (.agg #[.bool false, v]) ∧ w'.ownsRow w.heap.size 3 1 v (dg (vl a)).length ((dg (vl a)).map (Value.int .i64))) ∧ Below w.heap.size w w' := by
  obtain ⟨i0, hi, hz0, hz1, hz2⟩ := info_parts Tryd.infoInt
  obtain ⟨pa, ca, rfl, ⟨hca', hna⟩, hpa⟩ := ha
  have hdone : ∀ n, n ≤ a.length → (∀ j, n ≤ j → el a j = 0) → (n = 0 ∨ el a (n - 1) ≠ 0) → Hid (a.take n = dg (vl a)) := fun n h1 h2 h3 => Lib.hid (trim_dg da n h1 h2 h3)
  have bR : Bx (w.alloc (.cells #[.bool false, .slice none 0 0] 24)) w.heap.size (.bool false) (.slice none 0 0) 24 := Bx.new w _ _ _
  have a1 := Below.alloc (Below.refl w.heap.size w) (Nat.le_refl _) (.cells #[.bool false, .slice none 0 0] 24)
  have hsz : (w.alloc (.cells #[.bool false, .slice none 0 0] 24)).heap.size = w.heap.size + 1 := by simp
  generalize hw1 : w.alloc (.cells #[.bool false, .slice none 0 0] 24) = w1 at *
  go_enter Tryd.func63, Tryd.ntmps63
  go_wp2
  go_loopw [5] (fun i wr => ∃ (k : Nat), i = .int .i64 k ∧ k ≤ a.length ∧ (∀ j, k ≤ j → el a j = 0) ∧ w1 = wr)
    (fun i _ => (intOf i).toNat)
  case atStart => exact ⟨a.length, rfl, Nat.le_refl _, fun j hj => el_out hj, by rw [← hw1]⟩
  case round =>
    obtain ⟨k, rfl, hk, hz, rfl⟩ := hrel
    by_cases hx0 : k = 0 ∨ el a (k - 1) ≠ 0
    · have Ho := hdone k hk hz hx0
      have bO : ∀ p : Bool, Bx (w1.alloc (.cells #[.bool p, .slice none 0 0] 24)) (w.heap.size + 1) (.bool p) (.slice none 0 0) 24 := fun p => by
        have := Bx.new w1 (.bool p) (.slice none 0 0) 24
        rwa [hsz] at this
      have a2 : ∀ p : Bool, Below (w.heap.size + 1) w1 (w1.alloc (.cells #[.bool p, .slice none 0 0] 24)) := fun p => Below.alloc (Below.refl _ _) (by omega) _
      have hcl := fun W (h : Below w.heap.size w W) (i : Nat) (hi : i < a.length) => show ∃ b off, pa = some ⟨b, off, none⟩ ∧ b < w.heap.size ∧ W.cell? ⟨b, off + i, none⟩ = some (.int .i64 (el a i)) from by
        obtain ⟨b, off, e, hc⟩ := hpa (by omega)
        exact ⟨b, off, e, World.block_lt_of_cell? w _ (hc i hi), lkeep h (hc i hi)⟩
      clear hdone hz hw1
      rcases Nat.eq_zero_or_pos k with h0 | h0
      · subst h0
        clear hpa hcl
        have bR2 : Bx (w1.alloc (.cells #[.bool false, .slice none 0 0] 24)) w.heap.size (.bool false) (.slice none 0 0) 24 := bR.alloc _
        have r0 := bR.c0
        have r1 := bR.c1
        have z0 := bR.f 0
        have z1 := bR.f 1
        have lR := bR.lt
        have HE : Hid (dg (vl a) = []) := Lib.hid (by rw [← Ho.out]; rfl)
        clear hx0 Ho
        all_goals
          go_wp2
          refine wp_loop_rounds 1 ?_
          rw [rounds_succ]
          go_wp2
          refine bodyPost_ret (v := .agg #[.bool false, .slice none 0 0]) (by simp [results, Tryd.results63, go_sem, *]) rfl ⟨⟨_, rfl, by rw [HE.out]; exact World.ownsRow_nil _ _ _ _⟩, by (repeat (first | with_reducible exact Below.refl _ _ | with_reducible assumption | refine Below.alloc ?_ (by (try simp); try omega) _ | refine Below.setCell ?_ (by (try simp); try omega) _ | refine below_drewN ?_ _ | refine Below.drew ?_ | (with_reducible refine Below.trans ?_ (Below.mono (by assumption) (by (try simp); try omega)))))⟩
      · have hkx : el a (k - 1) ≠ 0 := by omega
        obtain ⟨ba, oa, rfl, hca⟩ := hpa (by omega)
        have hck := lkeep a1 (hca (k - 1) (by omega))
        obtain ⟨x, hx⟩ : ∃ x, el a (k - 1) = x := ⟨_, rfl⟩
        rw [hx] at hck hkx
        have HX := Lib.hid hx
        have hkI : (0 : Int) < (k : Int) := by omega
        have HO := Lib.hid Ho.out
        clear Ho
        have hba := World.block_lt_of_cell? w _ (hca 0 (by omega))
        have hdk : decide ((0 : Int) < (k : Int)) = true := by simpa using hkI
        clear hx hx0 hcl hpa
        all_goals
          go_wp2
          go_loopw [7] (fun i wr => ∃ (n : Nat) (v : Value) (P : Bool), i = .int .i64 n ∧ n ≤ k ∧ Bx wr (w.heap.size + 1) (.bool P) v 24 ∧ wr.ownsRow (w.heap.size + 2) 3 1 v n ((a.take n).map (Value.int .i64)) ∧ Below (w.heap.size + 1) w1 wr ∧ P = false)
            (fun i _ => k - (intOf i).toNat)
          case atStart => exact ⟨0, _, _, rfl, by omega, bO _, World.ownsRow_nil _ _ _ _, a2 _, rfl⟩
          case round =>
            obtain ⟨n, v, P, rfl, hn, bx, hown, hnx, rfl⟩ := hrel
            have hB : Below w.heap.size w wr := a1.trans (hnx.mono (by omega))
            by_cases hlt : n < k
            · have hcn := lkeep hB (hca n (by omega))
              have eT : (a.take (n + 1)).map (Value.int .i64) = (a.take n).map (Value.int .i64) ++ [.int .i64 (el a n)] := by
                rw [List.take_add_one, List.map_append, List.getElem?_eq_getElem (by omega), el_eq, List.getD_eq_getElem?_getD, List.getElem?_eq_getElem (by omega)]; rfl
              obtain ⟨y, hy⟩ : ∃ y, el a n = y := ⟨_, rfl⟩
              rw [hy] at hcn eT
              have HT := Lib.hid eT
              have r1 := bx.c1
              have hwr : w.heap.size + 2 ≤ wr.heap.size := bx.lt
              clear hck hca hy eT a2 bO bR hdk
              go_wp2_with fail
              have b1 : (n : Int) < (a.length : Int) := by omega
              have b0 : (0 : Int) ≤ (n : Int) := by omega
              have b2 : n < a.length := by omega
              have r1a : (wr.alloc (.cells #[.int .i64 y] 3)).cell? ⟨w.heap.size + 1, 1, none⟩ = some v := lkeep (by (repeat (first | with_reducible exact Below.refl _ _ | with_reducible assumption | refine Below.alloc ?_ (by (try simp); try omega) _ | refine Below.setCell ?_ (by (try simp); try omega) _ | refine below_drewN ?_ _ | refine Below.drew ?_ | (with_reducible refine Below.trans ?_ (Below.mono (by assumption) (by (try simp); try omega)))))) r1
              have ne1 : w.heap.size + 1 ≠ wr.heap.size := by omega
              have ne2 := ne1.symm
              have lt1 : w.heap.size + 1 < wr.heap.size := by omega
              go_region_law ((refine step_append_lies _ (by rfl) _ _ _ (by rfl) (w.heap.size + 2) 3 i0 (.int .i64 0) 1 8 Tryd.underlying22 hi hz0 hz1 hz2 rfl (by decide) v n ((a.take n).map (Value.int .i64)) (by rfl) (by exact own_heap (hown.alloc (.cells #[.int .i64 y] 3)) rfl) ⟨wr.heap.size, 0, none⟩ 1 1 [.int .i64 y] (by rfl) (by rfl) (by exact news_heap (w := wr) (.int .i64 y) 3 rfl) (one_cell _ _) (by omega) (by unfold maxLen; omega) (by omega) (by simp; omega) (wr.heap.size + 1) (by simp) ?_; intro gg cap w2 hown' hgrow hat hlt2; have hb2 : Below (w.heap.size + 2) wr w2 := Below.grown (by (repeat (first | with_reducible exact Below.refl _ _ | with_reducible assumption | refine Below.alloc ?_ (by (try simp); try omega) _ | refine Below.setCell ?_ (by (try simp); try omega) _ | refine below_drewN ?_ _ | refine Below.drew ?_ | (with_reducible refine Below.trans ?_ (Below.mono (by assumption) (by (try simp); try omega)))))) hgrow (by simp; omega) (fun k hk => (hown.lt k hk).1); have bx2 := bx.keepB hb2 (by omega); have r2 := bx2.c1; have z2 := bx2.f 1; have lx2 := bx2.lt))
              all_goals
                clear r1 r1a
                go_wp2
                go_roundw
                case rel =>
                  exact ⟨n + 1, _, false, by simp, by omega, bx2.set1 _, ownsRow_setCell_below (by rw [HT.out]; exact hown') (show w.heap.size + 1 < w.heap.size + 2 by omega) _, (hnx.trans (hb2.mono (by omega))).setCell (Nat.le_refl _) _, rfl⟩
                case measure => simp [intOf]; omega
            · have en : n = k := by omega
              subst en
              have hrow : wr.ownsRow (w.heap.size + 2) 3 1 v (a.take n).length ((a.take n).map (Value.int .i64)) := by
                rw [List.length_take, Nat.min_eq_left hk]; exact hown
              have hnl : (a.take n).length = n := by rw [List.length_take, Nat.min_eq_left hk]
              have hv := hrow
              obtain ⟨pv, cv, rfl⟩ : ∃ pv cv, v = .slice pv n cv := by
                rcases hrow.2 with ⟨rfl, h0⟩ | ⟨g, cap, cur, rfl, _⟩
                · exact ⟨none, 0, by rw [hnl] at h0; rw [h0]⟩
                · exact ⟨_, cap, by rw [hnl]⟩
              have bR' := bR.keepB hnx (by omega)
              have r0 := bx.c0
              have r1 := bx.c1
              have q0 := bR'.c0
              have q1 := bR'.c1
              have z0 := bR'.f 0
              have z1 := bR'.f 1
              have lR := bR'.lt
              have hfin : ((wr.setCell ⟨w.heap.size, 0, none⟩ (.bool false)).setCell ⟨w.heap.size, 1, none⟩ (.slice pv n cv)).ownsRow w.heap.size 3 1 (.slice pv n cv) (dg (vl a)).length ((dg (vl a)).map (Value.int .i64)) := by
                rw [← HO.out]
                exact own_low (ownsRow_setCell_below (ownsRow_setCell_below hv (show w.heap.size < w.heap.size + 2 by omega) _) (show w.heap.size < w.heap.size + 2 by omega) _) (by omega)
              have Hfin := Lib.hid hfin
              clear hfin hown hrow hck hca a2 bO bR hdk a1 hn hv
              go_wp2
              refine bodyPost_ret (v := .agg #[.bool false, .slice pv n cv]) (by simp [results, Tryd.results63, go_sem, *]) rfl ⟨⟨_, rfl, Hfin.out⟩, by (repeat (first | with_reducible exact Below.refl _ _ | with_reducible assumption | refine Below.alloc ?_ (by (try simp); try omega) _ | refine Below.setCell ?_ (by (try simp); try omega) _ | refine below_drewN ?_ _ | refine Below.drew ?_ | (with_reducible refine Below.trans ?_ (Below.mono (by assumption) (by (try simp); try omega)))))⟩
    · obtain ⟨ba, oa, rfl, hca⟩ := hpa (by omega)
      have hck := lkeep a1 (hca (k - 1) (by omega))
      obtain ⟨x, hx⟩ : ∃ x, el a (k - 1) = x := ⟨_, rfl⟩
      rw [hx] at hck
      have x0 : x = 0 := by rw [hx] at hx0; omega
      have hk0 : k ≠ 0 := by omega
      subst x0
      replace hx := Lib.hid hx
      clear hdone hca hw1 hx0
      go_wp2
      go_roundw
      case rel =>
        refine ⟨k - 1, by congr 1; omega, by omega, fun j hj => ?_, trivial⟩
        rcases Nat.lt_or_ge j k with h | h
        · rw [show j = k - 1 by omega, hx.out]
        · exact hz j h
      case measure => simp [intOf]; omega

theorem Ow.val2 {w : World} {B g : Nat} {v : Value} {l : List Int} (h : Ow w B g v l) : ∃ cap, v = .slice (some ⟨g, 0, none⟩) l.length cap := by
  obtain ⟨cap, cur, e, _⟩ := h
  exact ⟨cap, e⟩
theorem quot_uniq {x y r k : Int} (h : k * y + r = x) (r0 : 0 ≤ r) (r1 : r < y) : r = x % y ∧ k = x / y := by
  subst h
  rw [Int.add_comm, Int.add_mul_emod_self_right, Int.add_mul_ediv_right _ _ (by omega), Int.emod_eq_of_lt r0 r1, Int.ediv_eq_zero_of_lt r0 r1]
  exact ⟨rfl, by omega⟩
theorem tdm (n : Int) : (n.tmod 1000000000 < 0 → n % 1000000000 = n.tmod 1000000000 + 1000000000 ∧ n / 1000000000 = n.tdiv 1000000000 - 1) ∧ (¬ n.tmod 1000000000 < 0 → n % 1000000000 = n.tmod 1000000000 ∧ n / 1000000000 = n.tdiv 1000000000) ∧ -1000000000 < n.tmod 1000000000 ∧ n.tmod 1000000000 < 1000000000 := by
  have e1 := Int.mul_tdiv_add_tmod n 1000000000
  have e2 : (0 ≤ n → 0 ≤ n.tmod 1000000000 ∧ n.tmod 1000000000 < 1000000000) ∧ (n < 0 → -1000000000 < n.tmod 1000000000 ∧ n.tmod 1000000000 ≤ 0) := by
    refine ⟨fun h => ?_, fun h => ?_⟩
    · rw [Int.tmod_eq_emod_of_nonneg h]; omega
    · have := Int.tmod_eq_emod_of_nonneg (a := -n) (b := 1000000000) (by omega)
      rw [Int.neg_tmod] at this; omega
  omega
set_option maxRecDepth 100000 in
set_option maxHeartbeats 4000000 in
theorem rtaken_num (w0 w : World) (vr vb : Value) (x y : Int) (x0 : 0 ≤ x) (y0 : 0 < y) (xy : x < y * 1000000000) (hr : w.ownsRow w0.heap.size 3 1 vr (dg x).length ((dg x).map (Value.int .i64))) (hb : Ls w0 vb (dg y)) (h0 : Below w0.heap.size w0 w) (lb : (dg y).length ≤ 90000) :
    Calls Tryd.prog 107 #[vr, vb] w fun e w' => ∃ v, e = .returned (.tuple #[v, .int .i64 (x / y)]) ∧ w'.ownsRow w0.heap.size 3 1 v (dg (x % y)).length ((dg (x % y)).map (Value.int .i64)) ∧ Below w0.heap.size w0 w' := by
  have hb' := hb
  obtain ⟨pb, cb, rfl, _, _⟩ := hb'
  have hm1 := dg_len_pos y0
  have db := dg_dig y (by omega)
  have hy := dg_lt (x := y) (by omega)
  have vy := dg_val y (by omega)
  obtain ⟨m, hm⟩ : ∃ m, (dg y).length = m + 1 := ⟨(dg y).length - 1, by omega⟩
  have hfd : ∀ (a : Option Addr) (n c : Nat) w, (Instr.field 24 (.agg #[.bool false, .slice a n c]) 1).run Tryd.prog w = .ok (.slice a n c) w := fun _ _ _ _ => by kernel_rfl
  have hless := fun w v r h h' r0 lr => rless_num v (.slice pb (m + 1) cb) r y w r0 (by omega) h h' lr (by omega)
  rw [hm] at hb hy lb ⊢
  go_enter Tryd.func107, Tryd.ntmps107
  go_wp2_with fail
  go_loopg [0, 6] x.toNat (fun K v n wr => ∃ (r k : Int), n = .int .i64 k ∧ Hid (K = r.toNat) ∧ Hid (k * y + r = x) ∧ 0 ≤ r ∧ Hid (r < y * 1000000000) ∧ 0 ≤ k ∧ k ≤ 1000000000 ∧ wr.ownsRow w0.heap.size 3 1 v (dg r).length ((dg r).map (Value.int .i64)) ∧ Below w0.heap.size w0 wr)
  case atStart => exact ⟨x, 0, rfl, Lib.hid rfl, Lib.hid (by omega), x0, Lib.hid xy, by omega, by omega, hr, h0⟩
  case round =>
    clear hr h0
    have hxy := Lib.hid xy
    clear xy
    obtain ⟨r, k, rfl, hK, hv, r0, hry, k0, k1, hr, h0⟩ := hrel
    have hbr := hb.keep h0
    have hls := Ls.own hr
    have hlr : (dg r).length ≤ m + 2 := dg_len_le r0 (by
      have := hry.out
      rw [show m + 2 = m + 1 + 1 from rfl, Int.pow_succ]; omega)
    have hls' := hls
    obtain ⟨pv, cv, rfl, _, _⟩ := hls'
    have hl1 := hless wr _ r hls hbr r0 (by omega)
    by_cases hlt : r < y
    · rw [show decide (r < y) = true by simpa using hlt] at hl1
      have hq := quot_uniq hv.out r0 hlt
      have Hq := Lib.hid hq
      have hlk := hr
      have hkeep : ∀ w', Below wr.heap.size wr w' → w'.ownsRow w0.heap.size 3 1 (.slice pv (dg r).length cv) (dg r).length ((dg r).map (Value.int .i64)) := fun w' hb => own_keep hlk hb
      have HKP := Lib.hid hkeep
      obtain ⟨L, hL⟩ : ∃ L, (dg r).length = L := ⟨_, rfl⟩
      rw [hL] at hl1 HKP ⊢
      have HLL := Lib.hid hL
      clear hq hr hless hlk hkeep hL hls hlr
      go_wp2_with fail
      go_at_call 83
      refine hl1.mono ?_
      rintro e w1 ⟨rfl, hb1⟩
      go_wp2
      go_ret2
      exact ⟨.slice pv L cv, by rw [Hq.out.2]; rfl, by rw [← Hq.out.1, HLL.out]; exact HKP.out _ hb1, h0.trans (hb1.mono h0.size)⟩
    · rw [show decide (r < y) = false by simpa using hlt] at hl1
      have hlen := dg_len_mono (x := y) (y := r) (by omega) (by omega)
      rw [hm] at hlen
      obtain ⟨g, ow⟩ := Ow.own hr (by omega)
      obtain ⟨cv', e⟩ := ow.val2
      cases e
      have hlt' : y ≤ r := by omega
      have dr := dg_dig r r0
      have hof := fun K' hk => often (r := r) (m := m + 1) hm.symm y0 hry.out hlt' (k := K') hk
      simp only [Nat.add_sub_cancel] at hof
      have cr := ow.cell (i := m) (by omega)
      obtain ⟨gb, ob, rfl, cbm⟩ := hbr.at (k := m) (by rw [hm]; omega)
      have bU := dr.el (by omega) (m + 1)
      have bV := dr.el (by omega) m
      have bD := db.el (by omega) m
      obtain ⟨U, hU⟩ : ∃ U, el (dg r) (m + 1) = U := ⟨_, rfl⟩
      obtain ⟨V, hV⟩ : ∃ V, el (dg r) m = V := ⟨_, rfl⟩
      obtain ⟨D, hD⟩ : ∃ D, el (dg y) m = D := ⟨_, rfl⟩
      rw [hU] at hof bU
      rw [hV] at hof cr bV
      rw [hD] at hof cbm bD
      obtain ⟨K0, hK0⟩ : ∃ K0, (U * 1000000000 + V) / (D + 1) = K0 := ⟨_, rfl⟩
      obtain ⟨f1, f2, f3⟩ := hof K0 hK0
      have et : IntKind.i64.wrap ((U * 1000000000 + V).tdiv (D + 1)) = K0 := by
        rw [Int.tdiv_eq_ediv_of_nonneg (by omega), hK0]; exact IntWalk.i64_in _ (by omega)
      have hD1 : ¬ D + 1 = 0 := by omega
      replace hK0 := Lib.hid hK0
      have HU := Lib.hid hU
      clear hof hU hV hD hless
      go_wp2_with fail
      go_at_call 83
      refine hl1.mono ?_
      rintro e w1 ⟨rfl, hb1⟩
      replace ow := ow.keep hb1
      replace h0 := h0.trans (hb1.mono h0.size)
      replace cr := lkeep hb1 cr
      replace cbm := lkeep hb1 cbm
      have hls1 := ow.ls
      have ea : ∀ q, Calls Tryd.prog 82 #[.slice (some ⟨g, 0, none⟩) (dg r).length cv, .int .i64 ((m : Int) + 1)] (w1.drewN q) fun e w' => e = .returned (.int .i64 U) ∧ w' = w1.drewN q := fun q => by
        have := rat_any _ (dg r) (m + 1) (w1.drewN q) (hls1.drewN q) (by omega)
        rw [HU.out] at this
        exact this
      clear hb1 hls hls1 hbr hl1 hr
      have hlm : m < (dg r).length := by omega
      have hLm : m + 1 ≤ (dg r).length := hlen
      obtain ⟨L, hL⟩ : ∃ L, (dg r).length = L := ⟨_, rfl⟩
      rw [hL] at ow ea hlm hlr hLm ⊢
      go_wp2_with fail
      go_quiet ((go_at_call 82; with_reducible exact Calls.quiet_of_same (ea _)))
      replace ow := ow.drew nq
      replace h0 : Below w0.heap.size w0 (w1.drewN nq) := by (repeat (first | with_reducible exact Below.refl _ _ | with_reducible assumption | refine Below.alloc ?_ (by (try simp); try omega) _ | refine Below.setCell ?_ (by (try simp); try omega) _ | refine below_drewN ?_ _ | refine Below.drew ?_ | (with_reducible refine Below.trans ?_ (Below.mono (by assumption) (by (try simp); try omega)))))
      clear ea cr cbm et
      generalize w1.drewN nq = w2 at *
      by_cases hk0 : K0 = 0
      · subst hk0
        clear f1 f2 f3
        have f3 : 1 * y ≤ r := by omega
        -- the round with 1
        have hKy : y ≤ 1 * y := by
          have := Int.mul_le_mul_of_nonneg_right (show (1 : Int) ≤ 1 by omega) (show 0 ≤ y by omega)
          omega
        have hKr : 1 * y ≤ r := by first | exact f3 | omega
        have hkB : k + 1 < 1000000000 := by
          rcases Int.lt_or_le (k + 1) 1000000000 with h | h
          · exact h
          · have h1 := Int.mul_le_mul_of_nonneg_right h (show 0 ≤ y by omega)
            have h2 : (k + 1) * y = k * y + 1 * y := Int.add_mul ..
            have h3 := hv.out
            have h4 := hxy.out
            omega
        have hK1 : 0 < 1 ∧ 1 < 1000000000 := by omega
        have hnew : Hid ((k + 1) * y + (r - 1 * y) = x) := Lib.hid (by rw [Int.add_mul]; have := hv.out; omega)
        have HKy := Lib.hid (And.intro hKy hKr)
        clear hKy hKr f3 hv
        go_wp2
        go_loopw [9, 10] (fun c i wr => ∃ (C : Int) (j : Nat) (R : List Int), c = .int .i64 C ∧ i = .int .i64 j ∧ j ≤ L ∧ -1000000000 ≤ C ∧ C ≤ 0 ∧ R.length = L ∧ Dg R ∧ Hid (vl R + C * 1000000000 ^ j = r - 1 * vl ((dg y).take j)) ∧ Ow wr w0.heap.size g (.slice (some ⟨g, 0, none⟩) L cv) R ∧ Below w0.heap.size w0 wr)
          (fun _ i _ => L - (intOf i).toNat)
        case atStart => exact ⟨0, 0, dg r, rfl, rfl, by omega, by omega, by omega, hL, dr, Lib.hid (by rw [dg_val r r0]; simp [vl, val]), ow, h0⟩
        case round =>
          clear ow h0
          obtain ⟨C, j, R, rfl, rfl, hj, C0, C1, hl, hd, hv, ow, h0⟩ := hrel
          by_cases hjL : j < L
          · have ci : (j : Int) < (L : Int) := by omega
            have hbk := hb.keep h0
            have ea := fun q => rat_any _ (dg y) j (wr.drewN q) (hbk.drewN q) (by omega)
            have cr := ow.cell (i := j) (by omega)
            have br := hd.el (by omega) j
            have bp := db.el (by omega) j
            have ty := val_take_succ_el (dg y) j
            have hset := fun x => vl_set R j x (by omega)
            obtain ⟨e, he⟩ : ∃ e, el R j = e := ⟨_, rfl⟩
            obtain ⟨P, hP⟩ : ∃ P, el (dg y) j = P := ⟨_, rfl⟩
            rw [he] at cr br hset
            rw [hP] at ea bp ty
            have bM : 0 ≤ P * 1 ∧ P * 1 ≤ 999999998000000001 := by omega
            have hM := Int.mul_one P
            rw [hM] at bM
            replace hM := Lib.hid hM
            have hX0 : ∀ X, X = e - P + C → Hid (vl (R.set j (X % 1000000000)) + X / 1000000000 * 1000000000 ^ (j + 1) = r - 1 * vl ((dg y).take (j + 1))) := fun X hX => Lib.hid (by
              have := tk_step (e := e) (b := P) (x := X) hv.out (by rw [hX, hM.out])
              rw [hset, Int.pow_succ, ty]
              exact this)
            obtain ⟨X, hX⟩ : ∃ X, e - P + C = X := ⟨_, rfl⟩
            have hput := hX0 X hX.symm
            have bX : -1000000000000000000 ≤ X ∧ X < 1000000000 := by omega
            have ht := tdm X
            have hC : -1000000000 ≤ X / 1000000000 ∧ X / 1000000000 ≤ 0 ∧ 0 ≤ X % 1000000000 ∧ X % 1000000000 < 1000000000 := by omega
            obtain ⟨q1, hq1⟩ : ∃ q1, X.tdiv 1000000000 = q1 := ⟨_, rfl⟩
            obtain ⟨r1, hr1⟩ : ∃ r1, X.tmod 1000000000 = r1 := ⟨_, rfl⟩
            rw [hq1, hr1] at ht
            clear hX0 hset he hP ty hv
            by_cases hneg : r1 < 0
            all_goals
              first
                | (have hx1 := (ht.1 hneg).1
                   have hx2 := (ht.1 hneg).2)
                | (have hx1 := (ht.2.1 hneg).1
                   have hx2 := (ht.2.1 hneg).2)
              have br1 : -1000000000 < r1 ∧ r1 < 1000000000 := ht.2.2
              have bq1 : -1000000001 ≤ q1 ∧ q1 ≤ 1 := by omega
              rw [hx1, hx2] at hput
              have hdg : 0 ≤ X % 1000000000 ∧ X % 1000000000 < 1000000000 := hC.2.2
              rw [hx1] at hdg
              have hcr : -1000000000 ≤ X / 1000000000 ∧ X / 1000000000 ≤ 0 := ⟨hC.1, hC.2.1⟩
              rw [hx2] at hcr
              clear ht hC hx1 hx2
              go_wp2
              go_quiet ((go_at_call 82; with_reducible exact Calls.quiet_of_same (ea _)))
              replace ow := ow.drew nq
              replace h0 : Below w0.heap.size w0 (wr.drewN nq) := by (repeat (first | with_reducible exact Below.refl _ _ | with_reducible assumption | refine Below.alloc ?_ (by (try simp); try omega) _ | refine Below.setCell ?_ (by (try simp); try omega) _ | refine below_drewN ?_ _ | refine Below.drew ?_ | (with_reducible refine Below.trans ?_ (Below.mono (by assumption) (by (try simp); try omega)))))
              generalize wr.drewN nq = wq at *
              have fz := ow.frz j
              have cq := ow.cell (i := j) (by omega)
              clear ea cr hbk
              go_wp2
              go_roundw
              case rel => exact ⟨_, j + 1, _, rfl, by simp, by omega, hcr.1, hcr.2, by simpa using hl, hd.set _ hdg.1 hdg.2, hput, ow.stored (by omega) _, by exact h0.setCell (by have := ow.ge; simpa using this) _⟩
              case measure => simp [intOf]; omega
          · have hjl : j = L := by omega
            have ci : ¬ (j : Int) < (L : Int) := by omega
            have hend : vl R = r - 1 * y := by
              have h := hv.out
              rw [vl_take_all (by omega), vy] at h
              have v1 := vl_lt hd
              rw [hl, ← hjl] at v1
              have v2 := dg_lt r0
              rw [hL, ← hjl] at v2
              have := HKy.out
              exact tk_end h (vl_nonneg hd) v1 (by omega) (by omega)
            have HE := Lib.hid hend
            have hm0 := made_row _ R wr ow.ls hd (by omega)
            clear hv hend ow
            go_wp2_with fail
            go_at_call 63
            refine hm0.mono ?_
            rintro e w3 ⟨⟨v, rfl, hrow⟩, hb3⟩
            rw [HE.out] at hrow
            have h03 := h0.trans (hb3.mono h0.size)
            have hrow2 := own_low hrow h0.size
            obtain ⟨pv, cv2, rfl⟩ : ∃ pv cv2, v = .slice pv (dg (r - 1 * y)).length cv2 := by
              rcases hrow.2 with ⟨rfl, hz⟩ | ⟨g2, cap, cur, rfl, _⟩
              · exact ⟨none, 0, by rw [hz]⟩
              · exact ⟨_, cap, rfl⟩
            clear hm0 hrow hb3 h0
            go_wp2
            go_roundg (r - 1 * y).toNat
            case measure => have := HKy.out; have := hK.out; omega
            case rel => exact ⟨r - 1 * y, k + 1, rfl, Lib.hid rfl, hnew, by have := HKy.out; omega, Lib.hid (by have := HKy.out; have := hry.out; omega), by omega, by omega, by first | exact hrow2 | (simp only [Int.one_mul] at hrow2 ⊢; exact hrow2), h03⟩
      · have hk0b : (K0 == 0) = false := by rw [beq_eq_false_iff_ne]; exact hk0
        -- the round with K0
        have hKy : y ≤ K0 * y := by
          have := Int.mul_le_mul_of_nonneg_right (show (1 : Int) ≤ K0 by omega) (show 0 ≤ y by omega)
          omega
        have hKr : K0 * y ≤ r := by first | exact f3 | omega
        have hkB : k + K0 < 1000000000 := by
          rcases Int.lt_or_le (k + K0) 1000000000 with h | h
          · exact h
          · have h1 := Int.mul_le_mul_of_nonneg_right h (show 0 ≤ y by omega)
            have h2 : (k + K0) * y = k * y + K0 * y := Int.add_mul ..
            have h3 := hv.out
            have h4 := hxy.out
            omega
        have hK1 : 0 < K0 ∧ K0 < 1000000000 := by omega
        have hnew : Hid ((k + K0) * y + (r - K0 * y) = x) := Lib.hid (by rw [Int.add_mul]; have := hv.out; omega)
        have HKy := Lib.hid (And.intro hKy hKr)
        clear hKy hKr f3 hv hk0
        go_wp2
        go_loopw [9, 10] (fun c i wr => ∃ (C : Int) (j : Nat) (R : List Int), c = .int .i64 C ∧ i = .int .i64 j ∧ j ≤ L ∧ -1000000000 ≤ C ∧ C ≤ 0 ∧ R.length = L ∧ Dg R ∧ Hid (vl R + C * 1000000000 ^ j = r - K0 * vl ((dg y).take j)) ∧ Ow wr w0.heap.size g (.slice (some ⟨g, 0, none⟩) L cv) R ∧ Below w0.heap.size w0 wr)
          (fun _ i _ => L - (intOf i).toNat)
        case atStart => exact ⟨0, 0, dg r, rfl, rfl, by omega, by omega, by omega, hL, dr, Lib.hid (by rw [dg_val r r0]; simp [vl, val]), ow, h0⟩
        case round =>
          clear ow h0
          obtain ⟨C, j, R, rfl, rfl, hj, C0, C1, hl, hd, hv, ow, h0⟩ := hrel
          by_cases hjL : j < L
          · have ci : (j : Int) < (L : Int) := by omega
            have hbk := hb.keep h0
            have ea := fun q => rat_any _ (dg y) j (wr.drewN q) (hbk.drewN q) (by omega)
            have cr := ow.cell (i := j) (by omega)
            have br := hd.el (by omega) j
            have bp := db.el (by omega) j
            have ty := val_take_succ_el (dg y) j
            have hset := fun x => vl_set R j x (by omega)
            obtain ⟨e, he⟩ : ∃ e, el R j = e := ⟨_, rfl⟩
            obtain ⟨P, hP⟩ : ∃ P, el (dg y) j = P := ⟨_, rfl⟩
            rw [he] at cr br hset
            rw [hP] at ea bp ty
            have bM := mul_dig bp (show 0 ≤ K0 ∧ K0 < 1000000000 by omega)
            obtain ⟨M, hM⟩ : ∃ M, P * K0 = M := ⟨_, rfl⟩
            rw [hM] at bM
            have e1 : IntKind.i64.wrap (P * K0) = M := by rw [hM]; exact IntWalk.i64_in _ (by omega)
            have hX0 : ∀ X, X = e - M + C → Hid (vl (R.set j (X % 1000000000)) + X / 1000000000 * 1000000000 ^ (j + 1) = r - K0 * vl ((dg y).take (j + 1))) := fun X hX => Lib.hid (by
              have := tk_step (e := e) (b := P) (x := X) hv.out (by rw [hX, hM])
              rw [hset, Int.pow_succ, ty]
              exact this)
            obtain ⟨X, hX⟩ : ∃ X, e - M + C = X := ⟨_, rfl⟩
            have hput := hX0 X hX.symm
            have bX : -1000000000000000000 ≤ X ∧ X < 1000000000 := by omega
            have ht := tdm X
            have hC : -1000000000 ≤ X / 1000000000 ∧ X / 1000000000 ≤ 0 ∧ 0 ≤ X % 1000000000 ∧ X % 1000000000 < 1000000000 := by omega
            obtain ⟨q1, hq1⟩ : ∃ q1, X.tdiv 1000000000 = q1 := ⟨_, rfl⟩
            obtain ⟨r1, hr1⟩ : ∃ r1, X.tmod 1000000000 = r1 := ⟨_, rfl⟩
            rw [hq1, hr1] at ht
            clear hX0 hset he hP ty hv
            by_cases hneg : r1 < 0
            all_goals
              first
                | (have hx1 := (ht.1 hneg).1
                   have hx2 := (ht.1 hneg).2)
                | (have hx1 := (ht.2.1 hneg).1
                   have hx2 := (ht.2.1 hneg).2)
              have br1 : -1000000000 < r1 ∧ r1 < 1000000000 := ht.2.2
              have bq1 : -1000000001 ≤ q1 ∧ q1 ≤ 1 := by omega
              rw [hx1, hx2] at hput
              have hdg : 0 ≤ X % 1000000000 ∧ X % 1000000000 < 1000000000 := hC.2.2
              rw [hx1] at hdg
              have hcr : -1000000000 ≤ X / 1000000000 ∧ X / 1000000000 ≤ 0 := ⟨hC.1, hC.2.1⟩
              rw [hx2] at hcr
              clear ht hC hx1 hx2
              go_wp2
              go_quiet ((go_at_call 82; with_reducible exact Calls.quiet_of_same (ea _)))
              replace ow := ow.drew nq
              replace h0 : Below w0.heap.size w0 (wr.drewN nq) := by (repeat (first | with_reducible exact Below.refl _ _ | with_reducible assumption | refine Below.alloc ?_ (by (try simp); try omega) _ | refine Below.setCell ?_ (by (try simp); try omega) _ | refine below_drewN ?_ _ | refine Below.drew ?_ | (with_reducible refine Below.trans ?_ (Below.mono (by assumption) (by (try simp); try omega)))))
              generalize wr.drewN nq = wq at *
              have fz := ow.frz j
              have cq := ow.cell (i := j) (by omega)
              clear ea cr hbk
              go_wp2
              go_roundw
              case rel => exact ⟨_, j + 1, _, rfl, by simp, by omega, hcr.1, hcr.2, by simpa using hl, hd.set _ hdg.1 hdg.2, hput, ow.stored (by omega) _, by exact h0.setCell (by have := ow.ge; simpa using this) _⟩
              case measure => simp [intOf]; omega
          · have hjl : j = L := by omega
            have ci : ¬ (j : Int) < (L : Int) := by omega
            have hend : vl R = r - K0 * y := by
              have h := hv.out
              rw [vl_take_all (by omega), vy] at h
              have v1 := vl_lt hd
              rw [hl, ← hjl] at v1
              have v2 := dg_lt r0
              rw [hL, ← hjl] at v2
              have := HKy.out
              exact tk_end h (vl_nonneg hd) v1 (by omega) (by omega)
            have HE := Lib.hid hend
            have hm0 := made_row _ R wr ow.ls hd (by omega)
            clear hv hend ow
            go_wp2_with fail
            go_at_call 63
            refine hm0.mono ?_
            rintro e w3 ⟨⟨v, rfl, hrow⟩, hb3⟩
            rw [HE.out] at hrow
            have h03 := h0.trans (hb3.mono h0.size)
            have hrow2 := own_low hrow h0.size
            obtain ⟨pv, cv2, rfl⟩ : ∃ pv cv2, v = .slice pv (dg (r - K0 * y)).length cv2 := by
              rcases hrow.2 with ⟨rfl, hz⟩ | ⟨g2, cap, cur, rfl, _⟩
              · exact ⟨none, 0, by rw [hz]⟩
              · exact ⟨_, cap, rfl⟩
            clear hm0 hrow hb3 h0
            go_wp2
            go_roundg (r - K0 * y).toNat
            case measure => have := HKy.out; have := hK.out; omega
            case rel => exact ⟨r - K0 * y, k + K0, rfl, Lib.hid rfl, hnew, by have := HKy.out; omega, Lib.hid (by have := HKy.out; have := hry.out; omega), by omega, by omega, by first | exact hrow2 | (simp only [Int.one_mul] at hrow2 ⊢; exact hrow2), h03⟩

end Go.Proofs.YtoppdbgodceaiaaDoor
