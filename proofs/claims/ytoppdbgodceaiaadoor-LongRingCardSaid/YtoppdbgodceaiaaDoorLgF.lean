/-
  Walks of package long: estimate.
-/
import Derived.Test.YtoppdbgodceaiaaDoorLgE
import Derived.Test.YtoppdbgodceaiaaDoorFixD
import Derived.Laws.Externs
namespace Go.Proofs.YtoppdbgodceaiaaDoor
open Go.RowKit

theorem add64 (x y : Int) (hx : 0 ≤ x) (hx1 : x < 18446744073709551616) (hy : 0 ≤ y) (hy1 : y < 18446744073709551616) (w : World) : (callFunc 70 #[.int .u64 x, .int .u64 y, .int .u64 0]).run Tryd.prog w =
    .ok (.value (.tuple #[.int .u64 ((x + y) % 18446744073709551616), .int .u64 ((x + y) / 18446744073709551616)])) w := by
  have h := run_add64 (P := Tryd.prog) x y 0 hx hy (Int.le_refl 0) (by omega) w
  rw [run_callFunc_extern Tryd.func70 (by kernel_rfl) (by kernel_rfl) (by kernel_rfl) (e := add64Entry) (by kernel_rfl), h, Int.add_zero]
  rfl

set_option maxRecDepth 100000 in
set_option maxHeartbeats 1600000 in
theorem estimate_any (va vb : Value) (W b : List Int) (w : World) (ha : Ls w va W) (hb : Ls w vb b) (dW : Dg W) (db : Dg b) (lb : 2 ≤ b.length) (lb1 : b.length ≤ 1000) (hW : W.length = b.length + 1) (hn : el b (b.length - 1) ≠ 0) :
    Calls Tryd.prog 118 #[va, vb] w fun e w' => e = .returned (.int .i64 (((el W b.length * 1000000000 + el W (b.length - 1)) * 1000000000 + el W (b.length - 2)) / (el b (b.length - 1) * 1000000000 + el b (b.length - 2)))) ∧ Below w.heap.size w w' := by
  obtain ⟨pa, ca, rfl, ⟨hca', hna⟩, hqa⟩ := ha
  obtain ⟨pb, cb, rfl, ⟨hcb', hnb⟩, hqb⟩ := hb
  obtain ⟨ba, oa, rfl, hxa⟩ := hqa (by omega)
  obtain ⟨bb, ob, rfl, hxb⟩ := hqb (by omega)
  have c1 := hxa (W.length - 1) (by omega)
  have c2 := hxa (W.length - 2) (by omega)
  have c3 := hxa (W.length - 3) (by omega)
  have c4 := hxb (b.length - 1) (by omega)
  have c5 := hxb (b.length - 2) (by omega)
  have d1 := dW.el (by omega) (W.length - 1)
  have d2 := dW.el (by omega) (W.length - 2)
  have d3 := dW.el (by omega) (W.length - 3)
  have d4 := db.el (by omega) (b.length - 1)
  have d5 := db.el (by omega) (b.length - 2)
  rw [show el W b.length = el W (W.length - 1) by rw [hW]; rfl, show el W (b.length - 1) = el W (W.length - 2) by rw [hW]; rfl, show el W (b.length - 2) = el W (W.length - 3) by rw [hW]; rfl]
  generalize el W (W.length - 1) = x1 at *
  generalize el W (W.length - 2) = x2 at *
  generalize el W (W.length - 3) = x3 at *
  generalize el b (b.length - 1) = y1 at *
  generalize el b (b.length - 2) = y2 at *
  generalize W.length = n at *
  generalize b.length = k at *
  replace hW := Lib.hid hW
  have hk2 : 2 ≤ k := lb
  have hk3 : k ≤ 1000 := lb1
  have hn3 : 3 ≤ n := by rw [hW.out]; omega
  have hn4 : n ≤ 1001 := by rw [hW.out]; omega
  clear hqa hqb hxa hxb dW db
  have e1 : IntKind.u64.wrap (x1 * 1000000000 + x2) = x1 * 1000000000 + x2 := wrap_in _ (by omega) (by omega)
  have e2 : IntKind.u64.wrap x3 = x3 := wrap_in _ (by omega) (by omega)
  have e3 : IntKind.u64.wrap (y1 * 1000000000 + y2) = y1 * 1000000000 + y2 := wrap_in _ (by omega) (by omega)
  have hmul : ∀ w, Calls Tryd.prog 69 #[.int .u64 (x1 * 1000000000 + x2), .int .u64 1000000000] w fun e w' => e = .returned (.tuple #[.int .u64 (hi64 ((x1 * 1000000000 + x2) * 1000000000)), .int .u64 (lo64 ((x1 * 1000000000 + x2) * 1000000000))]) ∧ w' = w := fun w => (mul64 (x1 * 1000000000 + x2) 1000000000 w (by omega) (by omega) (by omega) (by omega)).mono fun _ _ h => ⟨h.1, h.2.symm⟩
  have hT : (hi64 ((x1 * 1000000000 + x2) * 1000000000)) * 18446744073709551616 + lo64 ((x1 * 1000000000 + x2) * 1000000000) = (x1 * 1000000000 + x2) * 1000000000 := by unfold hi64 lo64; omega
  have bH : 0 ≤ hi64 ((x1 * 1000000000 + x2) * 1000000000) ∧ hi64 ((x1 * 1000000000 + x2) * 1000000000) < 100000000 := by unfold hi64; omega
  have bL : 0 ≤ lo64 ((x1 * 1000000000 + x2) * 1000000000) ∧ lo64 ((x1 * 1000000000 + x2) * 1000000000) < 18446744073709551616 := by unfold lo64; omega
  generalize hi64 ((x1 * 1000000000 + x2) * 1000000000) = H at *
  generalize lo64 ((x1 * 1000000000 + x2) * 1000000000) = L at *
  have hadd := add64 L x3 bL.1 bL.2 d3.1 (by omega)
  obtain ⟨S, hS⟩ : ∃ S, (L + x3) % 18446744073709551616 = S := ⟨_, rfl⟩
  obtain ⟨C, hC⟩ : ∃ C, (L + x3) / 18446744073709551616 = C := ⟨_, rfl⟩
  rw [hS, hC] at hadd
  have bS : 0 ≤ S ∧ S < 18446744073709551616 := by omega
  have bC : 0 ≤ C ∧ C ≤ 1 := by omega
  have hn2 : (H + C) * 18446744073709551616 + S = (x1 * 1000000000 + x2) * 1000000000 + x3 := by omega
  have e4 : IntKind.u64.wrap (H + C) = H + C := wrap_in _ (by omega) (by omega)
  have hdiv := fun w => div64_any (H + C) S (y1 * 1000000000 + y2) w (by omega) (by omega) (by omega) (by omega) (by omega)
  rw [hn2] at hdiv
  have hq : 0 ≤ ((x1 * 1000000000 + x2) * 1000000000 + x3) / (y1 * 1000000000 + y2) ∧ ((x1 * 1000000000 + x2) * 1000000000 + x3) / (y1 * 1000000000 + y2) < 9000000000000000000 := by
    refine ⟨Int.ediv_nonneg (by omega) (by omega), Int.ediv_lt_of_lt_mul (by omega) ?_⟩
    have := Int.mul_le_mul_of_nonneg_left (show 1000000000 ≤ y1 * 1000000000 + y2 by omega) (show (0 : Int) ≤ 9000000000000000000 by omega)
    omega
  generalize ((x1 * 1000000000 + x2) * 1000000000 + x3) / (y1 * 1000000000 + y2) = Q at *
  generalize ((x1 * 1000000000 + x2) * 1000000000 + x3) % (y1 * 1000000000 + y2) = M at *
  have e5 : IntKind.i64.wrap Q = Q := IntWalk.i64_in _ (by omega)
  clear hT hS hC hn2
  go_enter Tryd.func118, Tryd.ntmps118
  go_wp2
  go_quiet ((go_at_call 69; exact Calls.quiet_of_same (hmul _)))
  have c4' : (w.drewN nq).cell? ⟨bb, ob + (k - 1), none⟩ = some (.int .i64 y1) := c4
  have c5' : (w.drewN nq).cell? ⟨bb, ob + (k - 2), none⟩ = some (.int .i64 y2) := c5
  have hB : Below w.heap.size w (w.drewN nq) := by (repeat (first | with_reducible exact Below.refl _ _ | with_reducible assumption | refine Below.alloc ?_ (by (try simp); try omega) _ | refine Below.setCell ?_ (by (try simp); try omega) _ | refine below_drewN ?_ _ | refine Below.drew ?_ | (with_reducible refine Below.trans ?_ (Below.mono (by assumption) (by (try simp); try omega)))))
  have hadd' := hadd (w.drewN nq)
  have c3' : (w.drewN nq).cell? ⟨ba, oa + (n - 3), none⟩ = some (.int .i64 x3) := c3
  generalize w.drewN nq = w2 at *
  clear hadd hmul
  go_wp2_with (simp only [hadd'])
  go_quiet ((go_at_call 132; exact Calls.quiet_of (hdiv _)))
  go_wp2
  go_ret
  exact ⟨rfl, by (repeat (first | with_reducible exact Below.refl _ _ | with_reducible assumption | refine Below.alloc ?_ (by (try simp); try omega) _ | refine Below.setCell ?_ (by (try simp); try omega) _ | refine below_drewN ?_ _ | refine Below.drew ?_ | (with_reducible refine Below.trans ?_ (Below.mono (by assumption) (by (try simp); try omega)))))⟩
end Go.Proofs.YtoppdbgodceaiaaDoor
