/-
  The reference: Sum, Diff.
-/
import Derived.Test.YtoppdbgodceaiaaDoorLrC
namespace Go.Proofs.YtoppdbgodceaiaaDoor
open Go.RowKit

theorem Ls.drewN {w : World} {v : Value} {l : List Int} (h : Ls w v l) (n : Nat) : Ls (w.drewN n) v l := h
theorem numL_sg (b : Bool) (l : List Int) : numL b l = sg b (vl l) := rfl
set_option maxRecDepth 100000 in
set_option maxHeartbeats 2000000 in
theorem rsum_same (b : Bool) (s1 s2 : Value) (x y : Int) (w : World) (x0 : 0 < x) (y0 : 0 < y) (h1 : Ls w s1 (dg x)) (h2 : Ls w s2 (dg y)) (l1 : (dg x).length ≤ 90000) (l2 : (dg y).length ≤ 90000) :
    Calls Tryd.prog 45 #[.agg #[.bool b, s1], .agg #[.bool b, s2]] w fun e w' => LgV (sg b (x + y)) e w' ∧ Below w.heap.size w w' := by
  obtain ⟨i0, hi, hz0, hz1, hz2⟩ := info_parts Tryd.infoInt
  have da := dg_dig x (by omega)
  have db := dg_dig y (by omega)
  have va := dg_val x (by omega)
  have vb := dg_val y (by omega)
  have p1 := dg_len_pos x0
  have p2 := dg_len_pos y0
  generalize dg x = a at *
  generalize dg y = c at *
  obtain ⟨M, hM⟩ : ∃ M, max a.length c.length = M := ⟨_, rfl⟩
  have m1 : a.length ≤ M ∧ c.length ≤ M ∧ M ≤ 90000 := by omega
  clear hM
  have h1' := h1
  have h2' := h2
  obtain ⟨pa, ca, rfl, _, hpa⟩ := h1'
  obtain ⟨pb, cb, rfl, _, _⟩ := h2'
  have hB : Below w.heap.size w (((w.alloc (.cells #[.bool b, .slice pa a.length ca] 24)).alloc (.cells #[.bool b, .slice pb c.length cb] 24)).alloc (.cells #[.bool false, .slice none 0 0] 24)) := by (repeat (first | with_reducible exact Below.refl _ _ | with_reducible assumption | refine Below.alloc ?_ (by (try simp); try omega) _ | refine Below.setCell ?_ (by (try simp); try omega) _ | refine below_drewN ?_ _ | refine Below.drew ?_ | (with_reducible refine Below.trans ?_ (Below.mono (by assumption) (by (try simp); try omega)))))
  have bA : Bx (((w.alloc (.cells #[.bool b, .slice pa a.length ca] 24)).alloc (.cells #[.bool b, .slice pb c.length cb] 24)).alloc (.cells #[.bool false, .slice none 0 0] 24)) (w.heap.size) (.bool b) (.slice pa a.length ca) 24 := by exact (((Bx.new w (.bool b) (.slice pa a.length ca) 24).alloc (.cells #[.bool b, .slice pb c.length cb] 24)).alloc (.cells #[.bool false, .slice none 0 0] 24))
  have bB : Bx (((w.alloc (.cells #[.bool b, .slice pa a.length ca] 24)).alloc (.cells #[.bool b, .slice pb c.length cb] 24)).alloc (.cells #[.bool false, .slice none 0 0] 24)) (w.heap.size + 1) (.bool b) (.slice pb c.length cb) 24 := by have := ((Bx.new (w.alloc (.cells #[.bool b, .slice pa a.length ca] 24)) (.bool b) (.slice pb c.length cb) 24).alloc (.cells #[.bool false, .slice none 0 0] 24)); simpa using this
  have bR : Bx (((w.alloc (.cells #[.bool b, .slice pa a.length ca] 24)).alloc (.cells #[.bool b, .slice pb c.length cb] 24)).alloc (.cells #[.bool false, .slice none 0 0] 24)) (w.heap.size + 1 + 1) (.bool false) (.slice none 0 0) 24 := by have := (Bx.new ((w.alloc (.cells #[.bool b, .slice pa a.length ca] 24)).alloc (.cells #[.bool b, .slice pb c.length cb] 24)) (.bool false) (.slice none 0 0) 24); simpa using this
  have rbA0 := bA.c0
  have rbA1 := bA.c1
  have rbB0 := bB.c0
  have rbB1 := bB.c1
  replace h1 := h1.keep hB
  replace h2 := h2.keep hB
  have hsz : (((w.alloc (.cells #[.bool b, .slice pa a.length ca] 24)).alloc (.cells #[.bool b, .slice pb c.length cb] 24)).alloc (.cells #[.bool false, .slice none 0 0] 24)).heap.size = w.heap.size + 3 := by simp
  have n1 : ((a.length : Int) == 0) = false := by rw [beq_eq_false_iff_ne]; omega
  have n2 : ((c.length : Int) == 0) = false := by rw [beq_eq_false_iff_ne]; omega
  have hbb : (b != b) = false := by simp
  go_enter Tryd.func45, Tryd.ntmps45
  go_wp2
  generalize (((w.alloc (.cells #[.bool b, .slice pa a.length ca] 24)).alloc (.cells #[.bool b, .slice pb c.length cb] 24)).alloc (.cells #[.bool false, .slice none 0 0] 24)) = w1 at *
  clear rbA0 rbA1 rbB0 rbB1
  go_loopw [5, 6, 7] (fun d cr i wr => ∃ (k : Nat) (u : Int) (l : List Int), cr = .int .i64 u ∧ i = .int .i64 k ∧ k ≤ M + 1 ∧ (M < k → u = 0) ∧ 0 ≤ u ∧ u ≤ 1 ∧ l.length = k ∧ Dg l ∧ Hid (vl l + u * 1000000000 ^ k = vl (a.take k) + vl (c.take k)) ∧ wr.ownsRow (w.heap.size + 3) 3 1 d l.length (l.map (Value.int .i64)) ∧ Below (w.heap.size + 3) w1 wr)
    (fun _ _ i _ => M + 1 - (intOf i).toNat)
  case atStart => exact ⟨0, 0, [], rfl, rfl, by omega, by omega, by omega, by omega, rfl, Dig.nil _, Lib.hid (by simp [vl, val]), World.ownsRow_nil _ _ _ _, by rw [← hsz]; exact Below.refl _ _⟩
  case round =>
    obtain ⟨k, u, l, rfl, rfl, hk, hMk, u0, u1, hl, hd, hv, hown, hnx⟩ := hrel
    replace bA := bA.keepB hnx (by omega)
    replace bB := bB.keepB hnx (by omega)
    replace bR := bR.keepB hnx (by omega)
    have rA0 := bA.c0
    have rA1 := bA.c1
    have rB0 := bB.c0
    have rB1 := bB.c1
    have hx : Below w1.heap.size w1 wr := by rw [hsz]; exact hnx
    replace h1 := h1.keep hx
    replace h2 := h2.keep hx
    have hBr : Below w.heap.size w wr := hB.trans (hnx.mono (by omega))
    by_cases hc : k < a.length ∨ k < c.length ∨ 0 < u
    · have ea := fun q => rat_any (.slice pa a.length ca) a k (wr.drewN q) (h1.drewN q) (by omega)
      have ec := fun q => rat_any (.slice pb c.length cb) c k (wr.drewN q) (h2.drewN q) (by omega)
      have ba := da.el (by omega) k
      have bc := db.el (by omega) k
      have ta := val_take_succ_el a k
      have tc := val_take_succ_el c k
      obtain ⟨p, hp⟩ : ∃ p, el a k = p := ⟨_, rfl⟩
      obtain ⟨q, hq⟩ : ∃ q, el c k = q := ⟨_, rfl⟩
      rw [hp] at ea ba ta
      rw [hq] at ec bc tc
      have hput : Hid (vl (l ++ [(p + q + u) % 1000000000]) + (p + q + u) / 1000000000 * 1000000000 ^ (k + 1) = vl (a.take (k + 1)) + vl (c.take (k + 1))) := Lib.hid (by
        have e := val_append 1000000000 l [(p + q + u) % 1000000000]
        rw [hl] at e
        have e2 : val 1000000000 [(p + q + u) % 1000000000] = (p + q + u) % 1000000000 := by simp [val]
        rw [e2] at e
        have h3 := hv.out
        show val _ _ + _ = _
        rw [e, ta, tc, Int.pow_succ]
        have e4 := Int.mul_ediv_add_emod (p + q + u) 1000000000
        generalize (p + q + u) / 1000000000 = D at *
        generalize (p + q + u) % 1000000000 = R at *
        have : R = p + q + u - 1000000000 * D := by omega
        subst this
        have h3' : val 1000000000 l + u * 1000000000 ^ k = vl (a.take k) + vl (c.take k) := h3
        grind)
      have hend : k + 1 ≤ M + 1 ∧ (M < k + 1 → (p + q + u) / 1000000000 = 0) := by
        refine ⟨by omega, fun h => ?_⟩
        have e1 : p = 0 := by rw [← hp]; exact el_out (by omega)
        have e2 : q = 0 := by rw [← hq]; exact el_out (by omega)
        omega
      have hkM : k ≤ M := by
        rcases Nat.lt_or_ge M k with h | h
        · have := hMk h; omega
        · exact h
      replace hp := Lib.hid hp
      replace hq := Lib.hid hq
      have He := Lib.hid hend
      clear hend ta tc hv hMk va vb h1 h2 hx bA bB bR
      rcases (by omega : (k : Int) < (a.length : Int) ∨ (¬ (k : Int) < (a.length : Int) ∧ (k : Int) < (c.length : Int)) ∨ (¬ (k : Int) < (a.length : Int) ∧ ¬ (k : Int) < (c.length : Int) ∧ 0 < u)) with c1 | ⟨c1, c2⟩ | ⟨c1, c2, c3⟩
      all_goals
        go_wp2
        go_quiet ((go_at_call 82; first | with_reducible exact Calls.quiet_of_same (ea _) | with_reducible exact Calls.quiet_of_same (ec _)))
        replace hown := ownsRow_drewN hown nq
        replace hnx : Below (w.heap.size + 3) w1 (wr.drewN nq) := by (repeat (first | with_reducible exact Below.refl _ _ | with_reducible assumption | refine Below.alloc ?_ (by (try simp); try omega) _ | refine Below.setCell ?_ (by (try simp); try omega) _ | refine below_drewN ?_ _ | refine Below.drew ?_ | (with_reducible refine Below.trans ?_ (Below.mono (by assumption) (by (try simp); try omega)))))
        generalize wr.drewN nq = wq at *
        clear ea ec hBr rA0 rA1 rB0 rB1
        go_wp2_with (at_builtin; refine wpList_append_own _ rfl _ _ 22 rfl (w.heap.size + 3) 3 i0 (.int .i64 0) 1 8 Tryd.underlying22 hi hz0 hz1 hz2 rfl (by decide) _ _ _ rfl (hown.alloc _) ⟨wq.heap.size, 0, none⟩ 1 1 [.int .i64 ((p + q + u) % 1000000000)] rfl rfl (one_at _ _ _) (one_cell _ _) (by unfold maxLen; omega) (by omega) (by have := hnx.size; simp only [World.size_alloc]; omega) ?_)
        intro v' w2 hown' hgrow _
        have hb := (hnx.alloc (by have := hnx.size; omega) (.cells #[.int .i64 ((p + q + u) % 1000000000)] 3)).grown hgrow (by have := hnx.size; simp only [World.size_alloc]; omega) (fun k hk => (hown.lt k hk).1)
        clear hown hgrow hnx
        go_wp2
        go_roundw
        case rel =>
          have R := (show ∃ (k' : Nat) (u' : Int) (l' : List Int), Value.int .i64 ((p + q + u) / 1000000000) = .int .i64 u' ∧ Value.int .i64 ((k : Int) + 1) = .int .i64 k' ∧ k' ≤ M + 1 ∧ (M < k' → u' = 0) ∧ 0 ≤ u' ∧ u' ≤ 1 ∧ l'.length = k' ∧ Dg l' ∧ Hid (vl l' + u' * 1000000000 ^ k' = vl (a.take k') + vl (c.take k')) ∧ w2.ownsRow (w.heap.size + 3) 3 1 v' l'.length (l'.map (Value.int .i64)) ∧ Below (w.heap.size + 3) w1 w2 from ⟨k + 1, _, l ++ [(p + q + u) % 1000000000], rfl, by simp, He.out.1, He.out.2, by omega, by omega, by simp [hl], hd.snoc (by omega) (by omega), hput, by rw [List.length_append, List.map_append, hl]; exact hown', hb⟩)
          first
            | exact R
            | ((repeat apply Exists.intro); exact ⟨R, rfl⟩)
        case measure => simp [intOf]; omega
    · have c1 : ¬ (k : Int) < (a.length : Int) := by omega
      have c2 : ¬ (k : Int) < (c.length : Int) := by omega
      obtain rfl : u = 0 := by omega
      have e : numL b l = sg b (x + y) := by
        have h := hv.out
        rw [vl_take_all (by omega), vl_take_all (by omega), va, vb] at h
        rw [numL_sg, ← h]; simp
      have HE := Lib.hid e
      have hls := Ls.own hown
      clear e hv va vb hown h1 h2 hx
      go_wp2_with fail
      go_at_call 63
      refine (made_any b _ l wr hls hd (by omega)).mono ?_
      rintro e w3 ⟨⟨p, pv, nv, cv, rfl, L⟩, hb3⟩
      replace L : Lg w3 _ (numL b l) := L
      rw [HE.out] at L
      replace bR := bR.keep hb3
      have hBe := hBr.trans (hb3.mono hBr.size)
      have rbR0 := bR.c0
      have rbR1 := bR.c1
      have zbR0 := bR.f 0
      have zbR1 := bR.f 1
      have lbR := bR.lt
      have hL := Lib.hid (L.put bR p pv nv cv)
      clear L hb3 hls bA bB hnx hB
      go_wp2
      refine bodyPost_ret (v := .agg #[.bool p, .slice pv nv cv]) (by simp [results, Tryd.results45, go_sem, rbR0, rbR1, zbR0, zbR1, lbR]) rfl ⟨⟨_, _, _, _, rfl, hL.out⟩, by (repeat (first | with_reducible exact Below.refl _ _ | with_reducible assumption | refine Below.alloc ?_ (by (try simp); try omega) _ | refine Below.setCell ?_ (by (try simp); try omega) _ | refine below_drewN ?_ _ | refine Below.drew ?_ | (with_reducible refine Below.trans ?_ (Below.mono (by assumption) (by (try simp); try omega)))))⟩
theorem diff_step {l : List Int} {V p q u n : Int} (k : Nat) (hl : l.length = k) (hv : vl l - u * 1000000000 ^ k = V) (t : Int) (hn : n = p - q - u + 1000000000 * t) (A' : Int) (hA : A' = V + 1000000000 ^ k * p - 1000000000 ^ k * q) : vl (l ++ [n]) - t * 1000000000 ^ (k + 1) = A' := by
  have e := val_append 1000000000 l [n]
  rw [hl] at e
  have e2 : val 1000000000 [n] = n := by simp [val]
  rw [e2] at e
  show val _ _ - _ = _
  have hv' : val 1000000000 l - u * 1000000000 ^ k = V := hv
  rw [e, Int.pow_succ, hA, ← hv', hn]
  grind
set_option maxRecDepth 100000 in
set_option maxHeartbeats 2000000 in
theorem rdiff_ge (b : Bool) (s1 s2 : Value) (x y : Int) (w : World) (x0 : 0 < x) (y0 : 0 < y) (xy : y ≤ x) (h1 : Ls w s1 (dg x)) (h2 : Ls w s2 (dg y)) (l1 : (dg x).length ≤ 90000) (l2 : (dg y).length ≤ 90000) :
    Calls Tryd.prog 46 #[.agg #[.bool b, s1], .agg #[.bool b, s2]] w fun e w' => LgV (sg b (x - y)) e w' ∧ Below w.heap.size w w' := by
  obtain ⟨i0, hi, hz0, hz1, hz2⟩ := info_parts Tryd.infoInt
  have da := dg_dig x (by omega)
  have db := dg_dig y (by omega)
  have va := dg_val x (by omega)
  have vb := dg_val y (by omega)
  have p1 := dg_len_pos x0
  have p2 := dg_len_pos y0
  have pl := dg_len_mono (x := y) (y := x) (by omega) xy
  have hlt := fun w h h' => rless_num s1 s2 x y w (by omega) (by omega) h h' (by omega) (by omega)
  rw [show decide (x < y) = false by simp; omega] at hlt
  generalize dg x = a at *
  generalize dg y = c at *
  have h1' := h1
  have h2' := h2
  obtain ⟨pa, ca, rfl, _, hpa⟩ := h1'
  obtain ⟨pb, cb, rfl, _, _⟩ := h2'
  have hB : Below w.heap.size w (((w.alloc (.cells #[.bool b, .slice pa a.length ca] 24)).alloc (.cells #[.bool b, .slice pb c.length cb] 24)).alloc (.cells #[.bool false, .slice none 0 0] 24)) := by (repeat (first | with_reducible exact Below.refl _ _ | with_reducible assumption | refine Below.alloc ?_ (by (try simp); try omega) _ | refine Below.setCell ?_ (by (try simp); try omega) _ | refine below_drewN ?_ _ | refine Below.drew ?_ | (with_reducible refine Below.trans ?_ (Below.mono (by assumption) (by (try simp); try omega)))))
  have bA : Bx (((w.alloc (.cells #[.bool b, .slice pa a.length ca] 24)).alloc (.cells #[.bool b, .slice pb c.length cb] 24)).alloc (.cells #[.bool false, .slice none 0 0] 24)) (w.heap.size) (.bool b) (.slice pa a.length ca) 24 := by exact (((Bx.new w (.bool b) (.slice pa a.length ca) 24).alloc (.cells #[.bool b, .slice pb c.length cb] 24)).alloc (.cells #[.bool false, .slice none 0 0] 24))
  have bB : Bx (((w.alloc (.cells #[.bool b, .slice pa a.length ca] 24)).alloc (.cells #[.bool b, .slice pb c.length cb] 24)).alloc (.cells #[.bool false, .slice none 0 0] 24)) (w.heap.size + 1) (.bool b) (.slice pb c.length cb) 24 := by have := ((Bx.new (w.alloc (.cells #[.bool b, .slice pa a.length ca] 24)) (.bool b) (.slice pb c.length cb) 24).alloc (.cells #[.bool false, .slice none 0 0] 24)); simpa using this
  have bR : Bx (((w.alloc (.cells #[.bool b, .slice pa a.length ca] 24)).alloc (.cells #[.bool b, .slice pb c.length cb] 24)).alloc (.cells #[.bool false, .slice none 0 0] 24)) (w.heap.size + 1 + 1) (.bool false) (.slice none 0 0) 24 := by have := (Bx.new ((w.alloc (.cells #[.bool b, .slice pa a.length ca] 24)).alloc (.cells #[.bool b, .slice pb c.length cb] 24)) (.bool false) (.slice none 0 0) 24); simpa using this
  have rbA0 := bA.c0
  have rbA1 := bA.c1
  have rbB0 := bB.c0
  have rbB1 := bB.c1
  replace h1 := h1.keep hB
  replace h2 := h2.keep hB
  have hsz : (((w.alloc (.cells #[.bool b, .slice pa a.length ca] 24)).alloc (.cells #[.bool b, .slice pb c.length cb] 24)).alloc (.cells #[.bool false, .slice none 0 0] 24)).heap.size = w.heap.size + 3 := by simp
  have n1 : ((a.length : Int) == 0) = false := by rw [beq_eq_false_iff_ne]; omega
  have n2 : ((c.length : Int) == 0) = false := by rw [beq_eq_false_iff_ne]; omega
  have hbb : (b != b) = false := by simp
  go_enter Tryd.func46, Tryd.ntmps46
  go_wp2_with fail
  go_at_call 83
  refine (hlt _ h1 h2).mono ?_
  rintro e w0 ⟨rfl, hb0⟩
  replace bA := bA.keep hb0
  replace bB := bB.keep hb0
  replace bR := bR.keep hb0
  replace h1 := h1.keep hb0
  replace h2 := h2.keep hb0
  have hB0 := hB.trans (hb0.mono hB.size)
  have hs0 : w.heap.size + 3 ≤ w0.heap.size := by have := hb0.size; omega
  clear rbA0 rbA1 rbB0 rbB1 hb0 hB hsz hlt
  generalize hS : w0.heap.size = S at *
  go_wp2
  go_loopw [5, 6, 7] (fun d cr i wr => ∃ (k : Nat) (u : Int) (l : List Int), cr = .int .i64 u ∧ i = .int .i64 k ∧ k ≤ a.length ∧ 0 ≤ u ∧ u ≤ 1 ∧ l.length = k ∧ Dg l ∧ Hid (vl l - u * 1000000000 ^ k = vl (a.take k) - vl (c.take k)) ∧ wr.ownsRow S 3 1 d l.length (l.map (Value.int .i64)) ∧ Below S w0 wr)
    (fun _ _ i _ => a.length - (intOf i).toNat)
  case atStart => exact ⟨0, 0, [], rfl, rfl, by omega, by omega, by omega, rfl, Dig.nil _, Lib.hid (by simp [vl, val]), World.ownsRow_nil _ _ _ _, by rw [← hS]; exact Below.refl _ _⟩
  case round =>
    obtain ⟨k, u, l, rfl, rfl, hk, u0, u1, hl, hd, hv, hown, hnx⟩ := hrel
    have lA := bA.lt
    have lB := bB.lt
    have lR := bR.lt
    replace bA := bA.keepB hnx (by omega)
    replace bB := bB.keepB hnx (by omega)
    replace bR := bR.keepB hnx (by omega)
    have rA0 := bA.c0
    have rA1 := bA.c1
    have rB0 := bB.c0
    have rB1 := bB.c1
    have hx : Below w0.heap.size w0 wr := by rw [hS]; exact hnx
    replace h1 := h1.keep hx
    replace h2 := h2.keep hx
    have hBr : Below w.heap.size w wr := hB0.trans (hx.mono hB0.size)
    by_cases hc : k < a.length
    · have ec := fun q => rat_any (.slice pb c.length cb) c k (wr.drewN q) (h2.drewN q) (by omega)
      obtain ⟨oa, ob, rfl, hca⟩ : ∃ oa ob, pa = some ⟨oa, ob, none⟩ ∧ wr.cell? ⟨oa, ob + k, none⟩ = some (.int .i64 (el a k)) := by
        obtain ⟨pp, cc, e1, _, e2⟩ := h1
        obtain ⟨g, f, e3, e4⟩ := e2 (by omega)
        cases e1
        exact ⟨g, f, e3, e4 k hc⟩
      have ba := da.el (by omega) k
      have bc := db.el (by omega) k
      have ta := val_take_succ_el a k
      have tc := val_take_succ_el c k
      obtain ⟨p, hp⟩ : ∃ p, el a k = p := ⟨_, rfl⟩
      obtain ⟨q, hq⟩ : ∃ q, el c k = q := ⟨_, rfl⟩
      rw [hp] at hca ba ta
      rw [hq] at ec bc tc
      have hput := fun n t hn => diff_step (n := n) (p := p) (q := q) (u := u) k hl hv.out t hn (vl (a.take (k + 1)) - vl (c.take (k + 1))) (by rw [ta, tc]; omega)
      have Hp := Lib.hid hput
      clear hput ta tc hv va vb h1 h2 hx bA bB bR hp hq
      have ck : (k : Int) < (a.length : Int) := by omega
      have hsc := fun nq => show (wr.drewN nq).cell? ⟨oa, ob + k, none⟩ = some (.int .i64 p) from hca
      obtain ⟨D, hD⟩ : ∃ D, D = if p - q - u < 0 then p - q - u + 1000000000 else p - q - u := ⟨_, rfl⟩
      obtain ⟨U, hU⟩ : ∃ U : Int, U = if p - q - u < 0 then 1 else 0 := ⟨_, rfl⟩
      by_cases hneg : p - q - u < 0
      all_goals
        first | rw [if_pos hneg] at hD hU | rw [if_neg hneg] at hD hU
        have bD : 0 ≤ D ∧ D < 1000000000 ∧ 0 ≤ U ∧ U ≤ 1 := by omega
        have hf := Hp.out D U (by omega)
        have Hf := Lib.hid hf
        clear hf Hp
        replace hD := hD.symm
        have HU := Lib.hid hU
        clear hU
        first
          | (have hnD : ¬ D < 0 := by omega
             rw [hD] at hneg
             clear hneg)
          | skip
        go_wp2
        go_quiet ((go_at_call 82; with_reducible exact Calls.quiet_of_same (ec _)))
        replace hown := ownsRow_drewN hown nq
        replace hnx : Below S w0 (wr.drewN nq) := by (repeat (first | with_reducible exact Below.refl _ _ | with_reducible assumption | refine Below.alloc ?_ (by (try simp); try omega) _ | refine Below.setCell ?_ (by (try simp); try omega) _ | refine below_drewN ?_ _ | refine Below.drew ?_ | (with_reducible refine Below.trans ?_ (Below.mono (by assumption) (by (try simp); try omega)))))
        generalize wr.drewN nq = wq at *
        clear ec hBr rA0 rA1 rB0 rB1 hsc
        go_wp2_with (at_builtin; refine wpList_append_own _ rfl _ _ 22 rfl S 3 i0 (.int .i64 0) 1 8 Tryd.underlying22 hi hz0 hz1 hz2 rfl (by decide) _ _ _ rfl (hown.alloc _) ⟨wq.heap.size, 0, none⟩ 1 1 [.int .i64 D] rfl rfl (one_at _ _ _) (one_cell _ _) (by unfold maxLen; omega) (by omega) (by have := hnx.size; simp only [World.size_alloc]; omega) ?_)
        intro v' w2 hown' hgrow _
        have hb := (hnx.alloc (by have := hnx.size; omega) (.cells #[.int .i64 D] 3)).grown hgrow (by have := hnx.size; simp only [World.size_alloc]; omega) (fun k hk => (hown.lt k hk).1)
        clear hown hgrow hnx
        go_wp2
        go_roundw
        case rel =>
          first
            | exact ⟨k + 1, U, l ++ [D], by rw [HU.out], by simp, by omega, by omega, by omega, by simp [hl], hd.snoc (by omega) (by omega), Hf, by rw [List.length_append, List.map_append, hl]; exact hown', hb⟩
            | ((repeat apply Exists.intro); exact ⟨⟨k + 1, U, l ++ [D], by rw [HU.out], by simp, by omega, by omega, by omega, by simp [hl], hd.snoc (by omega) (by omega), Hf, by rw [List.length_append, List.map_append, hl]; exact hown', hb⟩, rfl⟩)
        case measure => simp [intOf]; omega
    · have c1 : ¬ (k : Int) < (a.length : Int) := by omega
      have e : numL b l = sg b (x - y) := by
        have h := hv.out
        rw [vl_take_all (by omega), vl_take_all (by omega), va, vb] at h
        have v0 := vl_nonneg hd
        have v1 := vl_lt hd
        rw [hl] at v1
        rw [numL_sg]
        rcases (by omega : u = 0 ∨ u = 1) with rfl | rfl
        · rw [Int.zero_mul] at h
          rw [← h]; simp
        · rw [Int.one_mul] at h; omega
      have HE := Lib.hid e
      have hls := Ls.own hown
      clear e hv va vb hown h1 h2 hx
      go_wp2_with fail
      go_at_call 63
      refine (made_any b _ l wr hls hd (by omega)).mono ?_
      rintro e w3 ⟨⟨p, pv, nv, cv, rfl, L⟩, hb3⟩
      replace L : Lg w3 _ (numL b l) := L
      rw [HE.out] at L
      replace bR := bR.keep hb3
      have hBe := hBr.trans (hb3.mono hBr.size)
      have rbR0 := bR.c0
      have rbR1 := bR.c1
      have zbR0 := bR.f 0
      have zbR1 := bR.f 1
      have lbR := bR.lt
      have hL := Lib.hid (L.put bR p pv nv cv)
      clear L hb3 hls bA bB hnx hB0
      go_wp2
      refine bodyPost_ret (v := .agg #[.bool p, .slice pv nv cv]) (by simp [results, Tryd.results46, go_sem, rbR0, rbR1, zbR0, zbR1, lbR]) rfl ⟨⟨_, _, _, _, rfl, hL.out⟩, by (repeat (first | with_reducible exact Below.refl _ _ | with_reducible assumption | refine Below.alloc ?_ (by (try simp); try omega) _ | refine Below.setCell ?_ (by (try simp); try omega) _ | refine below_drewN ?_ _ | refine Below.drew ?_ | (with_reducible refine Below.trans ?_ (Below.mono (by assumption) (by (try simp); try omega)))))⟩
end Go.Proofs.YtoppdbgodceaiaaDoor
