/-
  Walks of package long: estimate, subtractTimes, addBack.
-/
import Derived.Test.YthhbnhdejbpjiaaDoorLgE
import Derived.Test.YthhbnhdejbpjiaaDoorFixD
import Derived.Laws.Externs
namespace Go.Proofs.YthhbnhdejbpjiaaDoor
open Go.RowKit

theorem add64 (x y : Int) (hx : 0 ≤ x) (hx1 : x < 18446744073709551616) (hy : 0 ≤ y) (hy1 : y < 18446744073709551616) (w : World) : (callFunc 47 #[.int .u64 x, .int .u64 y, .int .u64 0]).run Tryd.prog w =
    .ok (.value (.tuple #[.int .u64 ((x + y) % 18446744073709551616), .int .u64 ((x + y) / 18446744073709551616)])) w := by
  have h := run_add64 (P := Tryd.prog) x y 0 hx hy (Int.le_refl 0) (by omega) w
  rw [run_callFunc_extern Tryd.func47 (by kernel_rfl) (by kernel_rfl) (by kernel_rfl) (e := add64Entry) (by kernel_rfl), h, Int.add_zero]
  rfl

set_option maxRecDepth 100000 in
set_option maxHeartbeats 1600000 in
theorem estimate_any (va vb : Value) (W b : List Int) (w : World) (ha : Ls w va W) (hb : Ls w vb b) (dW : Dg W) (db : Dg b) (lb : 2 ≤ b.length) (lb1 : b.length ≤ 1000) (hW : W.length = b.length + 1) (hn : el b (b.length - 1) ≠ 0) :
    Calls Tryd.prog 75 #[va, vb] w fun e w' => e = .returned (.int .i64 (((el W b.length * 1000000000 + el W (b.length - 1)) * 1000000000 + el W (b.length - 2)) / (el b (b.length - 1) * 1000000000 + el b (b.length - 2)))) ∧ Below w.heap.size w w' := by
  obtain ⟨pa, ca, rfl, ⟨hca', hna⟩, hqa⟩ := ha
  obtain ⟨pb, cb, rfl, ⟨hcb', hnb⟩, hqb⟩ := hb
  obtain ⟨ba, oa, rfl, hxa⟩ := hqa (by omega)
  obtain ⟨bb, ob, rfl, hxb⟩ := hqb (by omega)
  have c1 := hxa (W.length - 1) (by omega)
  have c2 := hxa (W.length - 2) (by omega)
  have c3 := hxa (W.length - 3) (by omega)
  have c4 := hxb (b.length - 1) (by omega)
  have c5 := hxb (b.length - 2) (by omega)
  have d1 := dW.el (by omega) (W.length - 1)
  have d2 := dW.el (by omega) (W.length - 2)
  have d3 := dW.el (by omega) (W.length - 3)
  have d4 := db.el (by omega) (b.length - 1)
  have d5 := db.el (by omega) (b.length - 2)
  rw [show el W b.length = el W (W.length - 1) by rw [hW]; rfl, show el W (b.length - 1) = el W (W.length - 2) by rw [hW]; rfl, show el W (b.length - 2) = el W (W.length - 3) by rw [hW]; rfl]
  generalize el W (W.length - 1) = x1 at *
  generalize el W (W.length - 2) = x2 at *
  generalize el W (W.length - 3) = x3 at *
  generalize el b (b.length - 1) = y1 at *
  generalize el b (b.length - 2) = y2 at *
  generalize W.length = n at *
  generalize b.length = k at *
  replace hW := Lib.hid hW
  have hk2 : 2 ≤ k := lb
  have hk3 : k ≤ 1000 := lb1
  have hn3 : 3 ≤ n := by rw [hW.out]; omega
  have hn4 : n ≤ 1001 := by rw [hW.out]; omega
  clear hqa hqb hxa hxb dW db
  have e1 : IntKind.u64.wrap (x1 * 1000000000 + x2) = x1 * 1000000000 + x2 := wrap_in _ (by omega) (by omega)
  have e2 : IntKind.u64.wrap x3 = x3 := wrap_in _ (by omega) (by omega)
  have e3 : IntKind.u64.wrap (y1 * 1000000000 + y2) = y1 * 1000000000 + y2 := wrap_in _ (by omega) (by omega)
  have hmul : ∀ w, Calls Tryd.prog 46 #[.int .u64 (x1 * 1000000000 + x2), .int .u64 1000000000] w fun e w' => e = .returned (.tuple #[.int .u64 (hi64 ((x1 * 1000000000 + x2) * 1000000000)), .int .u64 (lo64 ((x1 * 1000000000 + x2) * 1000000000))]) ∧ w' = w := fun w => (mul64 (x1 * 1000000000 + x2) 1000000000 w (by omega) (by omega) (by omega) (by omega)).mono fun _ _ h => ⟨h.1, h.2.symm⟩
  have hT : (hi64 ((x1 * 1000000000 + x2) * 1000000000)) * 18446744073709551616 + lo64 ((x1 * 1000000000 + x2) * 1000000000) = (x1 * 1000000000 + x2) * 1000000000 := by unfold hi64 lo64; omega
  have bH : 0 ≤ hi64 ((x1 * 1000000000 + x2) * 1000000000) ∧ hi64 ((x1 * 1000000000 + x2) * 1000000000) < 100000000 := by unfold hi64; omega
  have bL : 0 ≤ lo64 ((x1 * 1000000000 + x2) * 1000000000) ∧ lo64 ((x1 * 1000000000 + x2) * 1000000000) < 18446744073709551616 := by unfold lo64; omega
  generalize hi64 ((x1 * 1000000000 + x2) * 1000000000) = H at *
  generalize lo64 ((x1 * 1000000000 + x2) * 1000000000) = L at *
  have hadd := add64 L x3 bL.1 bL.2 d3.1 (by omega)
  obtain ⟨S, hS⟩ : ∃ S, (L + x3) % 18446744073709551616 = S := ⟨_, rfl⟩
  obtain ⟨C, hC⟩ : ∃ C, (L + x3) / 18446744073709551616 = C := ⟨_, rfl⟩
  rw [hS, hC] at hadd
  have bS : 0 ≤ S ∧ S < 18446744073709551616 := by omega
  have bC : 0 ≤ C ∧ C ≤ 1 := by omega
  have hn2 : (H + C) * 18446744073709551616 + S = (x1 * 1000000000 + x2) * 1000000000 + x3 := by omega
  have e4 : IntKind.u64.wrap (H + C) = H + C := wrap_in _ (by omega) (by omega)
  have hdiv := fun w => div64_any (H + C) S (y1 * 1000000000 + y2) w (by omega) (by omega) (by omega) (by omega) (by omega)
  rw [hn2] at hdiv
  have hq : 0 ≤ ((x1 * 1000000000 + x2) * 1000000000 + x3) / (y1 * 1000000000 + y2) ∧ ((x1 * 1000000000 + x2) * 1000000000 + x3) / (y1 * 1000000000 + y2) < 9000000000000000000 := by
    refine ⟨Int.ediv_nonneg (by omega) (by omega), Int.ediv_lt_of_lt_mul (by omega) ?_⟩
    have := Int.mul_le_mul_of_nonneg_left (show 1000000000 ≤ y1 * 1000000000 + y2 by omega) (show (0 : Int) ≤ 9000000000000000000 by omega)
    omega
  generalize ((x1 * 1000000000 + x2) * 1000000000 + x3) / (y1 * 1000000000 + y2) = Q at *
  generalize ((x1 * 1000000000 + x2) * 1000000000 + x3) % (y1 * 1000000000 + y2) = M at *
  have e5 : IntKind.i64.wrap Q = Q := IntWalk.i64_in _ (by omega)
  clear hT hS hC hn2
  go_enter Tryd.func75, Tryd.ntmps75
  go_wp2
  go_quiet ((go_at_call 46; exact Calls.quiet_of_same (hmul _)))
  have c4' : (w.drewN nq).cell? ⟨bb, ob + (k - 1), none⟩ = some (.int .i64 y1) := c4
  have c5' : (w.drewN nq).cell? ⟨bb, ob + (k - 2), none⟩ = some (.int .i64 y2) := c5
  have hB : Below w.heap.size w (w.drewN nq) := by (repeat (first | with_reducible exact Below.refl _ _ | with_reducible assumption | refine Below.alloc ?_ (by (try simp); try omega) _ | refine Below.setCell ?_ (by (try simp); try omega) _ | refine below_drewN ?_ _ | refine Below.drew ?_ | (with_reducible refine Below.trans ?_ (Below.mono (by assumption) (by (try simp); try omega)))))
  have hadd' := hadd (w.drewN nq)
  have c3' : (w.drewN nq).cell? ⟨ba, oa + (n - 3), none⟩ = some (.int .i64 x3) := c3
  generalize w.drewN nq = w2 at *
  clear hadd hmul
  go_wp2_with (simp only [hadd'])
  go_quiet ((go_at_call 83; exact Calls.quiet_of (hdiv _)))
  go_wp2
  go_ret
  exact ⟨rfl, by (repeat (first | with_reducible exact Below.refl _ _ | with_reducible assumption | refine Below.alloc ?_ (by (try simp); try omega) _ | refine Below.setCell ?_ (by (try simp); try omega) _ | refine below_drewN ?_ _ | refine Below.drew ?_ | (with_reducible refine Below.trans ?_ (Below.mono (by assumption) (by (try simp); try omega)))))⟩

theorem sub_step {V A c d n r P C T c1 t : Int} (hv : V = A + c * P) (hc : c1 = c + d * n) (hT : T = r - c1 % 1000000000 + 1000000000 * t) (hC : C = c1 / 1000000000 + t) :
    V + P * (T - r) = A - P * (n * d) + C * (P * 1000000000) := by
  have e := Int.mul_ediv_add_emod c1 1000000000
  generalize c1 / 1000000000 = q at *
  generalize c1 % 1000000000 = m at *
  have : m = c1 - 1000000000 * q := by omega
  subst this hT hC hv hc
  grind
theorem add_step {V A c d r P c1 : Int} (hv : V + c * P = A) (hc : c1 = c + (r + d)) :
    V + P * (c1 % 1000000000 - r) + c1 / 1000000000 * (P * 1000000000) = A + P * d := by
  have e := Int.mul_ediv_add_emod c1 1000000000
  generalize c1 / 1000000000 = q at *
  generalize c1 % 1000000000 = m at *
  have : m = c1 - 1000000000 * q := by omega
  subst this hv hc
  grind

/-- Every row but g's is as it was. -/
def Oth (g : Nat) (w w' : World) : Prop := ∀ (h : Nat) (l : List Int), h ≠ g → Rw w h l → Rw w' h l
theorem Oth.refl (g : Nat) (w : World) : Oth g w w := fun _ _ _ h => h
theorem Rw.other {w : World} {h g o : Nat} {l : List Int} (k : Rw w h l) (hn : h ≠ g) (u : Value) : Rw (w.setCell ⟨g, o, none⟩ u) h l := by
  unfold Rw at *
  rw [Below.heap_setCell w ⟨g, o, none⟩ u h hn]; exact k
theorem Oth.setCell {g o : Nat} {w w' : World} (h : Oth g w w') (u : Value) : Oth g w (w'.setCell ⟨g, o, none⟩ u) := fun a l hn k => (h a l hn k).other hn u
theorem Oth.drewN {g : Nat} {w w' : World} (h : Oth g w w') (m : Nat) : Oth g w (w'.drewN m) := h

set_option maxRecDepth 100000 in
set_option maxHeartbeats 1600000 in
theorem subTimes_any (w0 w : World) (g p cap : Nat) (R b : List Int) (vb : Value) (n : Int) (hb : Ls w0 vb b) (h0 : Below w0.heap.size w0 w) (hg : w0.heap.size ≤ g) (hr : Rw w g R) (db : Dg b) (lb : b.length ≤ 1000)
    (hp : p + b.length < R.length) (hd : ∀ j, p ≤ j → j < p + b.length → 0 ≤ el R j ∧ el R j < 1000000000) (ht : 0 ≤ el R (p + b.length) ∧ el R (p + b.length) < 1000000000) (n0 : 0 ≤ n) (n1 : n ≤ 1000000000) :
    Calls Tryd.prog 76 #[.slice (some ⟨g, p, none⟩) (b.length + 1) cap, vb, .int .i64 n] w fun e w' => ∃ R', e = .returned (.tuple #[]) ∧ Rw w' g R' ∧ R'.length = R.length ∧
      (∀ j, j < p ∨ p + b.length < j → el R' j = el R j) ∧ (∀ j, p ≤ j → j < p + b.length → 0 ≤ el R' j ∧ el R' j < 1000000000) ∧ (-2000000000 ≤ el R' (p + b.length) ∧ el R' (p + b.length) < 1000000000) ∧ vl R' = vl R - 1000000000 ^ p * (n * vl b) ∧ Oth g w w' ∧ Below w0.heap.size w w' := by
  obtain ⟨pb, cb, rfl, ⟨hcb', hnb⟩, hqb⟩ := hb
  go_enter Tryd.func76, Tryd.ntmps76
  go_wp2
  go_loopw [6, 11] (fun c i wr => ∃ (k : Nat) (x : Int) (T : List Int), c = .int .i64 x ∧ i = .int .i64 k ∧ k ≤ b.length ∧ 0 ≤ x ∧ x ≤ 2000000000 ∧ T.length = R.length ∧ (∀ j, j < p ∨ p + k ≤ j → el T j = el R j) ∧ (∀ j, p ≤ j → j < p + b.length → 0 ≤ el T j ∧ el T j < 1000000000) ∧ Hid (vl T = vl R - 1000000000 ^ p * (n * vl (b.take k)) + x * 1000000000 ^ (p + k)) ∧ Rw wr g T ∧ Oth g w wr ∧ Below w0.heap.size w wr)
    (fun _ i _ => b.length - (intOf i).toNat)
  case atStart => exact ⟨0, 0, R, rfl, rfl, by omega, by omega, by omega, rfl, fun _ _ => rfl, hd, Lib.hid (by simp [vl, val]), hr, Oth.refl _ _, Below.refl _ _⟩
  case round =>
    obtain ⟨k, x, T, rfl, rfl, hk, x0, x1, hl, hz, hd2, hv, hr2, ho, hnx⟩ := hrel
    clear hd hr
    by_cases hkb : k < b.length
    · obtain ⟨bb, ob, rfl, hxb⟩ := hqb (by omega)
      have hcy := (hxb k hkb)
      have hcy := lkeep (h0.trans hnx) hcy
      have dy := db.el (by omega) k
      obtain ⟨y, ey⟩ : ∃ y, el b k = y := ⟨_, rfl⟩
      rw [ey] at hcy dy
      have hcr := hr2.cell (i := p + k) (by omega)
      have hfr := hr2.frz (p + k)
      have dr := hd2 (p + k) (by omega) (by omega)
      obtain ⟨r, er⟩ : ∃ r, el T (p + k) = r := ⟨_, rfl⟩
      rw [er] at hcr dr
      obtain ⟨P, hP⟩ : ∃ P, y * n = P := ⟨_, rfl⟩
      have bP : 0 ≤ P ∧ P ≤ 999999999000000000 := by
        subst hP
        exact ⟨Int.mul_nonneg dy.1 n0, by have := Int.mul_le_mul (show y ≤ 999999999 by omega) n1 n0 (by omega : (0 : Int) ≤ 999999999); omega⟩
      have e1 : IntKind.i64.wrap (y * n) = P := by rw [hP]; exact IntWalk.i64_in _ (by omega)
      have hput : ∀ z t : Int, z = r - (x + P) % 1000000000 + 1000000000 * t → Hid (vl (T.set (p + k) z) = vl R - 1000000000 ^ p * (n * vl (b.take (k + 1))) + ((x + P) / 1000000000 + t) * 1000000000 ^ (p + (k + 1))) := fun z t hz => Lib.hid (by
        have e := sub_step (P := 1000000000 ^ (p + k)) hv.out (show x + P = x + y * n by rw [hP]) hz rfl
        rw [vl_set _ _ _ (by omega), er, e, val_take_succ_el, ey, ← Nat.add_assoc, Int.pow_succ 1000000000 (p + k), Int.pow_add]
        grind)
      have hz' : ∀ (z : Int) (j : Nat), j < p ∨ p + (k + 1) ≤ j → el (T.set (p + k) z) j = el R j := fun z j hj => by
        rw [el_set_ne _ _ _ _ (by omega)]; exact hz j (by omega)
      have hd3 : ∀ z : Int, 0 ≤ z → z < 1000000000 → ∀ j, p ≤ j → j < p + b.length → 0 ≤ el (T.set (p + k) z) j ∧ el (T.set (p + k) z) j < 1000000000 := fun z z0 z1 j h1 h2 => by
        by_cases hj : j = p + k
        · subst hj; rw [el_set_eq _ _ _ (by omega)]; exact ⟨z0, z1⟩
        · rw [el_set_ne _ _ _ _ hj]; exact hd2 j h1 h2
      clear hv hP ey er hxb hz hd2
      have hr4 := hr2.stored (p + k) (r - (x + P) % 1000000000)
      have hc4 := hr4.cell (i := p + k) (by simp; omega)
      have hf4 := hr4.frz (p + k)
      rw [el_set_eq _ _ _ (by omega)] at hc4
      by_cases hn : r - (x + P) % 1000000000 < 0
      · have hr5 := hr4.stored (p + k) (r - (x + P) % 1000000000 + 1000000000)
        rw [List.set_set] at hr5
        go_wp2
        go_roundw
        case rel =>
          refine ⟨k + 1, (x + P) / 1000000000 + 1, _, rfl, by simp, by omega, by omega, by omega, ?_, hz' _, hd3 (r - (x + P) % 1000000000 + 1000000000) (by omega) (by omega), hput _ 1 (by omega), hr5, (ho.setCell _).setCell _, by (repeat (first | with_reducible exact Below.refl _ _ | with_reducible assumption | refine Below.alloc ?_ (by (try simp); try omega) _ | refine Below.setCell ?_ (by (try simp); try omega) _ | refine below_drewN ?_ _ | refine Below.drew ?_ | (with_reducible refine Below.trans ?_ (Below.mono (by assumption) (by (try simp); try omega)))))⟩
          simpa using hl
        case measure => simp [intOf]; omega
      · go_wp2
        go_roundw
        case rel =>
          refine ⟨k + 1, (x + P) / 1000000000, _, rfl, by simp, by omega, by omega, by omega, ?_, hz' _, hd3 (r - (x + P) % 1000000000) (by omega) (by omega), ?_, hr4, ho.setCell _, by (repeat (first | with_reducible exact Below.refl _ _ | with_reducible assumption | refine Below.alloc ?_ (by (try simp); try omega) _ | refine Below.setCell ?_ (by (try simp); try omega) _ | refine below_drewN ?_ _ | refine Below.drew ?_ | (with_reducible refine Below.trans ?_ (Below.mono (by assumption) (by (try simp); try omega)))))⟩
          · simpa using hl
          · have := hput (r - (x + P) % 1000000000) 0 (by omega)
            rwa [Int.add_zero] at this
        case measure => simp [intOf]; omega
    · have : k = b.length := by omega
      subst this
      have hcr := hr2.cell (i := p + b.length) (by omega)
      have hfr := hr2.frz (p + b.length)
      have er := hz (p + b.length) (by omega)
      rw [er] at hcr
      have hr4 := hr2.stored (p + b.length) (el R (p + b.length) - x)
      have hv2 : vl (T.set (p + b.length) (el R (p + b.length) - x)) = vl R - 1000000000 ^ p * (n * vl b) := by
        have e := hv.out
        rw [vl_set _ _ _ (by omega), er, e, List.take_length]; grind
      have hz' : ∀ (j : Nat), j < p ∨ p + b.length < j → el (T.set (p + b.length) (el R (p + b.length) - x)) j = el R j := fun j hj => by
        rw [el_set_ne _ _ _ _ (by omega)]; exact hz j (by omega)
      have hd3 : ∀ j, p ≤ j → j < p + b.length → 0 ≤ el (T.set (p + b.length) (el R (p + b.length) - x)) j ∧ el (T.set (p + b.length) (el R (p + b.length) - x)) j < 1000000000 := fun j h1 h2 => by
        rw [el_set_ne _ _ _ _ (by omega)]; exact hd2 j h1 h2
      have htop : el (T.set (p + b.length) (el R (p + b.length) - x)) (p + b.length) = el R (p + b.length) - x := el_set_eq _ _ _ (by omega)
      have hl2 : (T.set (p + b.length) (el R (p + b.length) - x)).length = R.length := by simpa using hl
      generalize T.set (p + b.length) (el R (p + b.length) - x) = T2 at *
      generalize el R (p + b.length) = t at *
      replace hv2 := Lib.hid hv2
      replace htop := Lib.hid htop
      clear hv er hz hd2
      go_wp2
      go_end0
      exact ⟨T2, rfl, hr4, hl2, hz', hd3, by rw [htop.out]; omega, hv2.out, ho.setCell _, by (repeat (first | with_reducible exact Below.refl _ _ | with_reducible assumption | refine Below.alloc ?_ (by (try simp); try omega) _ | refine Below.setCell ?_ (by (try simp); try omega) _ | refine below_drewN ?_ _ | refine Below.drew ?_ | (with_reducible refine Below.trans ?_ (Below.mono (by assumption) (by (try simp); try omega)))))⟩

set_option maxRecDepth 100000 in
set_option maxHeartbeats 1600000 in
theorem addBack_any (w0 w : World) (g p cap : Nat) (R b : List Int) (vb : Value) (hb : Ls w0 vb b) (h0 : Below w0.heap.size w0 w) (hg : w0.heap.size ≤ g) (hr : Rw w g R) (db : Dg b) (lb : b.length ≤ 1000)
    (hp : p + b.length < R.length) (hd : ∀ j, p ≤ j → j < p + b.length → 0 ≤ el R j ∧ el R j < 1000000000) (ht : -2000000000 ≤ el R (p + b.length) ∧ el R (p + b.length) < 1000000000) :
    Calls Tryd.prog 77 #[.slice (some ⟨g, p, none⟩) (b.length + 1) cap, vb] w fun e w' => ∃ R', e = .returned (.tuple #[]) ∧ Rw w' g R' ∧ R'.length = R.length ∧
      (∀ j, j < p ∨ p + b.length < j → el R' j = el R j) ∧ (∀ j, p ≤ j → j < p + b.length → 0 ≤ el R' j ∧ el R' j < 1000000000) ∧ (-2000000000 ≤ el R' (p + b.length) ∧ el R' (p + b.length) ≤ 1000000000) ∧ vl R' = vl R + 1000000000 ^ p * vl b ∧ Oth g w w' ∧ Below w0.heap.size w w' := by
  obtain ⟨pb, cb, rfl, ⟨hcb', hnb⟩, hqb⟩ := hb
  go_enter Tryd.func77, Tryd.ntmps77
  go_wp2
  go_loopw [4, 9] (fun c i wr => ∃ (k : Nat) (x : Int) (T : List Int), c = .int .i64 x ∧ i = .int .i64 k ∧ k ≤ b.length ∧ 0 ≤ x ∧ x ≤ 1 ∧ T.length = R.length ∧ (∀ j, j < p ∨ p + k ≤ j → el T j = el R j) ∧ (∀ j, p ≤ j → j < p + b.length → 0 ≤ el T j ∧ el T j < 1000000000) ∧ Hid (vl T + x * 1000000000 ^ (p + k) = vl R + 1000000000 ^ p * vl (b.take k)) ∧ Rw wr g T ∧ Oth g w wr ∧ Below w0.heap.size w wr)
    (fun _ i _ => b.length - (intOf i).toNat)
  case atStart => exact ⟨0, 0, R, rfl, rfl, by omega, by omega, by omega, rfl, fun _ _ => rfl, hd, Lib.hid (by simp [vl, val]), hr, Oth.refl _ _, Below.refl _ _⟩
  case round =>
    obtain ⟨k, x, T, rfl, rfl, hk, x0, x1, hl, hz, hd2, hv, hr2, ho, hnx⟩ := hrel
    clear hd hr
    by_cases hkb : k < b.length
    · obtain ⟨bb, ob, rfl, hxb⟩ := hqb (by omega)
      have hcy := (hxb k hkb)
      have hcy := lkeep (h0.trans hnx) hcy
      have dy := db.el (by omega) k
      obtain ⟨y, ey⟩ : ∃ y, el b k = y := ⟨_, rfl⟩
      rw [ey] at hcy dy
      have hcr := hr2.cell (i := p + k) (by omega)
      have hfr := hr2.frz (p + k)
      have dr := hd2 (p + k) (by omega) (by omega)
      obtain ⟨r, er⟩ : ∃ r, el T (p + k) = r := ⟨_, rfl⟩
      rw [er] at hcr dr
      have hput : Hid (vl (T.set (p + k) ((x + (r + y)) % 1000000000)) + (x + (r + y)) / 1000000000 * 1000000000 ^ (p + (k + 1)) = vl R + 1000000000 ^ p * vl (b.take (k + 1))) := Lib.hid (by
        have e := add_step (P := 1000000000 ^ (p + k)) hv.out (show x + (r + y) = x + (r + y) from rfl)
        rw [vl_set _ _ _ (by omega), er, val_take_succ_el, ey, ← Nat.add_assoc, Int.pow_succ 1000000000 (p + k), e, Int.pow_add]
        grind)
      have hz' : ∀ (z : Int) (j : Nat), j < p ∨ p + (k + 1) ≤ j → el (T.set (p + k) z) j = el R j := fun z j hj => by
        rw [el_set_ne _ _ _ _ (by omega)]; exact hz j (by omega)
      have hd3 : ∀ z : Int, 0 ≤ z → z < 1000000000 → ∀ j, p ≤ j → j < p + b.length → 0 ≤ el (T.set (p + k) z) j ∧ el (T.set (p + k) z) j < 1000000000 := fun z z0 z1 j h1 h2 => by
        by_cases hj : j = p + k
        · subst hj; rw [el_set_eq _ _ _ (by omega)]; exact ⟨z0, z1⟩
        · rw [el_set_ne _ _ _ _ hj]; exact hd2 j h1 h2
      clear hv ey er hxb hz hd2
      go_wp2
      go_roundw
      case rel =>
        refine ⟨k + 1, (x + (r + y)) / 1000000000, _, rfl, by simp, by omega, by omega, by omega, ?_, hz' _, hd3 _ (by omega) (by omega), hput, hr2.stored (p + k) _, ho.setCell _, by (repeat (first | with_reducible exact Below.refl _ _ | with_reducible assumption | refine Below.alloc ?_ (by (try simp); try omega) _ | refine Below.setCell ?_ (by (try simp); try omega) _ | refine below_drewN ?_ _ | refine Below.drew ?_ | (with_reducible refine Below.trans ?_ (Below.mono (by assumption) (by (try simp); try omega)))))⟩
        simpa using hl
      case measure => simp [intOf]; omega
    · have : k = b.length := by omega
      subst this
      have hcr := hr2.cell (i := p + b.length) (by omega)
      have hfr := hr2.frz (p + b.length)
      have er := hz (p + b.length) (by omega)
      rw [er] at hcr
      have hr4 := hr2.stored (p + b.length) (el R (p + b.length) + x)
      have hv2 : vl (T.set (p + b.length) (el R (p + b.length) + x)) = vl R + 1000000000 ^ p * vl b := by
        have e := hv.out
        rw [List.take_length] at e
        rw [vl_set _ _ _ (by omega), er, ← e]; grind
      have hz' : ∀ (j : Nat), j < p ∨ p + b.length < j → el (T.set (p + b.length) (el R (p + b.length) + x)) j = el R j := fun j hj => by
        rw [el_set_ne _ _ _ _ (by omega)]; exact hz j (by omega)
      have hd3 : ∀ j, p ≤ j → j < p + b.length → 0 ≤ el (T.set (p + b.length) (el R (p + b.length) + x)) j ∧ el (T.set (p + b.length) (el R (p + b.length) + x)) j < 1000000000 := fun j h1 h2 => by
        rw [el_set_ne _ _ _ _ (by omega)]; exact hd2 j h1 h2
      have htop : el (T.set (p + b.length) (el R (p + b.length) + x)) (p + b.length) = el R (p + b.length) + x := el_set_eq _ _ _ (by omega)
      have hl2 : (T.set (p + b.length) (el R (p + b.length) + x)).length = R.length := by simpa using hl
      generalize T.set (p + b.length) (el R (p + b.length) + x) = T2 at *
      generalize el R (p + b.length) = t at *
      replace hv2 := Lib.hid hv2
      replace htop := Lib.hid htop
      clear hv er hz hd2
      go_wp2
      go_end0
      exact ⟨T2, rfl, hr4, hl2, hz', hd3, by rw [htop.out]; omega, hv2.out, ho.setCell _, by (repeat (first | with_reducible exact Below.refl _ _ | with_reducible assumption | refine Below.alloc ?_ (by (try simp); try omega) _ | refine Below.setCell ?_ (by (try simp); try omega) _ | refine below_drewN ?_ _ | refine Below.drew ?_ | (with_reducible refine Below.trans ?_ (Below.mono (by assumption) (by (try simp); try omega)))))⟩
end Go.Proofs.YthhbnhdejbpjiaaDoor
