/-
  Walks of package fix: root.
-/
import Derived.Test.YtnfapdmbkpkkdaaGreatFixE
import Derived.Deep.RegionHeld3
namespace Go.Proofs.YtnfapdmbkpkkdaaGreat
open Go.RowKit

/-- The root, bit by bit: after k of 43 rounds. -/
def sq (n : Int) : Nat → Int
  | 0 => 0
  | k + 1 => if (sq n k + (2 ^ (42 - k) : Nat)) * (sq n k + (2 ^ (42 - k) : Nat)) ≤ n then sq n k + (2 ^ (42 - k) : Nat) else sq n k
def isqrt (n : Int) : Int := sq n 43
/-- The root, rounded down or up. -/
def rootR (to : Bool) (n : Int) : Int := if to = true ∧ isqrt n * isqrt n ≠ n then isqrt n + 1 else isqrt n

theorem sq_spec (n : Int) (n0 : 0 ≤ n) (n1 : n < 77371252455336267181195264) : ∀ k, k ≤ 43 → ∃ t : Int, 0 ≤ t ∧ sq n k = t * (2 ^ (43 - k) : Nat) ∧ sq n k * sq n k ≤ n ∧ n < (sq n k + (2 ^ (43 - k) : Nat)) * (sq n k + (2 ^ (43 - k) : Nat)) ∧ sq n k + (2 ^ (43 - k) : Nat) ≤ 8796093022208
  | 0, _ => ⟨0, by omega, by simp [sq], by simp [sq]; omega, by simp [sq]; omega, by simp [sq]⟩
  | k + 1, h => by
    obtain ⟨t, t0, h1, h2, h3, h4⟩ := sq_spec n n0 n1 k (by omega)
    have e : (2 ^ (43 - k) : Nat) = 2 * 2 ^ (42 - k) := by rw [show 43 - k = (42 - k) + 1 by omega, Nat.pow_succ]; omega
    rw [e] at h1 h3 h4
    rw [show 43 - (k + 1) = 42 - k by omega]
    have hp := Nat.two_pow_pos (42 - k)
    simp only [sq]
    generalize sq n k = r at *
    generalize hP : (2 ^ (42 - k) : Nat) = P at *
    rw [show ((2 * P : Nat) : Int) = 2 * (P : Int) by omega] at h1 h3 h4
    split
    · rename_i hc
      refine ⟨2 * t + 1, by omega, by rw [h1]; grind, hc, by rw [show r + (P : Int) + P = r + 2 * P by omega]; exact h3, by omega⟩
    · rename_i hc
      exact ⟨2 * t, by omega, by rw [h1]; grind, h2, by omega, by omega⟩

theorem isqrt_spec (n : Int) (n0 : 0 ≤ n) (n1 : n < 77371252455336267181195264) : 0 ≤ isqrt n ∧ isqrt n * isqrt n ≤ n ∧ n < (isqrt n + 1) * (isqrt n + 1) ∧ isqrt n ≤ 8796093022207 := by
  obtain ⟨t, t0, h1, h2, h3, h4⟩ := sq_spec n n0 n1 43 (by omega)
  unfold isqrt
  rw [show (2 ^ (43 - 43) : Nat) = 1 from rfl] at h1 h3 h4
  refine ⟨by rw [h1]; omega, h2, h3, by omega⟩

theorem root_any (n : Int) (to : Bool) (w : World) (n0 : 0 ≤ n) (n1 : n ≤ 19342813113834066795298816) :
    Calls Tryz.prog 124 #[.agg #[.int .u64 (hi64 n), .int .u64 (lo64 n)], .bool to] w fun e w' =>
      e = .returned (.int .u64 (rootR to n)) ∧ Below w.heap.size w w' := by
  go_enter Tryz.func124, Tryz.ntmps124
  go_wp2
  go_loopw [5, 8] (fun v i wr => ∃ k : Nat, k ≤ 43 ∧ i = .int .i64 k ∧ v = .int .u64 (sq n k) ∧ Below (w.heap.size + 1) (w.alloc (Obj.cells #[.int .u64 (hi64 n), .int .u64 (lo64 n)] 125)) wr) (fun _ i _ => 43 - (intOf i).toNat)
  case atStart => exact ⟨0, by omega, rfl, rfl, Below.refl _ _⟩
  case round =>
    obtain ⟨k, hk, rfl, rfl, hb⟩ := hrel
    obtain ⟨t, t0, h1, h2, h3, h4⟩ := sq_spec n n0 (by omega) k hk
    have hz := hb.size
    simp at hz
    have c0 : wr.cell? ⟨w.heap.size, 0, none⟩ = some (.int .u64 (hi64 n)) := by rw [hb.cell (by simp)]; simp
    have c1 : wr.cell? ⟨w.heap.size, 1, none⟩ = some (.int .u64 (lo64 n)) := by rw [hb.cell (by simp)]; simp
    by_cases hlt : k < 43
    · have e : (2 ^ (43 - k) : Nat) = 2 * 2 ^ (42 - k) := by rw [show 43 - k = (42 - k) + 1 by omega, Nat.pow_succ]; omega
      have hp := Nat.two_pow_pos (42 - k)
      have hd0 : 0 ≤ t * (2 ^ (43 - k) : Nat) := Int.mul_nonneg t0 (by omega)
      obtain ⟨m, hm⟩ : ∃ m, bits .or .u64 (sq n k) (IntKind.u64.wrap (2 ^ (42 - k))) = m := ⟨_, rfl⟩
      have hme : m = sq n k + (2 ^ (42 - k) : Nat) := by
        rw [← hm, h1, show IntKind.u64.wrap (2 ^ (42 - k)) = ((2 ^ (42 - k) : Nat) : Int) by
          rw [show ((2 : Int) ^ (42 - k)) = ((2 ^ (42 - k) : Nat) : Int) by norm_cast]; exact wrap_in _ (by omega) (by omega)]
        exact or_add t _ (43 - k) t0 (by omega) (by omega) (by omega)
      have hm0 : 0 ≤ m := by rw [hme, h1]; have := Int.mul_nonneg t0 (show (0 : Int) ≤ (2 ^ (43 - k) : Nat) by omega); omega
      have hm1 : m ≤ 8796093022207 := by omega
      have hsq : sq n (k + 1) = if m * m ≤ n then m else sq n k := by rw [hme]; rfl
      have Hsq := Lib.hid hsq
      clear hsq hme e h1 h2 h3 h4 hp t0
      by_cases hgt : m * m ≤ n
      · have Hs : Hid (sq n (k + 1) = m) := by rw [Hsq.out, if_pos hgt]; exact Lib.hid rfl
        have hg : gtB (m * m) n = false := by unfold gtB; simp; omega
        clear Hsq hgt
        go_wp2
        go_region_held3 (fun w' => w'.cell? ⟨w.heap.size, 0, none⟩ = some (.int .u64 (hi64 n)) ∧ w'.cell? ⟨w.heap.size, 1, none⟩ = some (.int .u64 (lo64 n)))
          ((go_split_ands; refine ⟨?_, ?_⟩ <;> (first | assumption | exact bkeep hb2 (by assumption) | exact bkeep hb1 (by assumption))))
          (first | (go_at_call 120; refine (product_any m m _ hm0 (by omega) hm0 (by omega)).mono ?_; rintro e w' ⟨rfl, hb1⟩) | (go_at_call 126; refine (exceeds_num (m * m) n _).mono ?_; rintro e w' ⟨rfl, hb2⟩))
        have z1 := hb1.size; have z2 := hb2.size
        simp at z1 z2
        go_wp2
        go_roundw
        case rel => exact ⟨k + 1, by omega, by go_num, by rw [Hs.out], by (repeat (first | with_reducible exact Below.refl _ _ | with_reducible assumption | refine Below.alloc ?_ (by (try simp); try omega) _ | refine Below.setCell ?_ (by (try simp); try omega) _ | refine below_drewN ?_ _ | refine Below.drew ?_ | (with_reducible refine Below.trans ?_ (Below.mono (by assumption) (by (try simp); try omega)))))⟩
        case measure => simp [intOf]; omega
      · have Hs : Hid (sq n (k + 1) = sq n k) := by rw [Hsq.out, if_neg hgt]; exact Lib.hid rfl
        have hg : gtB (m * m) n = true := by unfold gtB; simp; omega
        clear Hsq hgt
        go_wp2
        go_region_held3 (fun w' => w'.cell? ⟨w.heap.size, 0, none⟩ = some (.int .u64 (hi64 n)) ∧ w'.cell? ⟨w.heap.size, 1, none⟩ = some (.int .u64 (lo64 n)))
          ((go_split_ands; refine ⟨?_, ?_⟩ <;> (first | assumption | exact bkeep hb2 (by assumption) | exact bkeep hb1 (by assumption))))
          (first | (go_at_call 120; refine (product_any m m _ hm0 (by omega) hm0 (by omega)).mono ?_; rintro e w' ⟨rfl, hb1⟩) | (go_at_call 126; refine (exceeds_num (m * m) n _).mono ?_; rintro e w' ⟨rfl, hb2⟩))
        have z1 := hb1.size; have z2 := hb2.size
        simp at z1 z2
        go_wp2
        go_roundw
        case rel => exact ⟨k + 1, by omega, by go_num, by rw [Hs.out], by (repeat (first | with_reducible exact Below.refl _ _ | with_reducible assumption | refine Below.alloc ?_ (by (try simp); try omega) _ | refine Below.setCell ?_ (by (try simp); try omega) _ | refine below_drewN ?_ _ | refine Below.drew ?_ | (with_reducible refine Below.trans ?_ (Below.mono (by assumption) (by (try simp); try omega)))))⟩
        case measure => simp [intOf]; omega
    · have hk43 : k = 43 := by omega
      subst hk43
      obtain ⟨i0, i1, i2, i3⟩ := isqrt_spec n n0 (by omega)
      clear h1 h2 h3 h4 t0
      have ei : isqrt n = sq n 43 := rfl
      rw [ei] at i0 i1 i2 i3
      have hR : rootR to n = if to = true ∧ sq n 43 * sq n 43 ≠ n then sq n 43 + 1 else sq n 43 := rfl
      clear ei
      cases to with
      | false =>
        have Hf := Lib.hid (show rootR false n = sq n 43 by rw [hR]; simp)
        clear hR
        go_wp2
        go_quiet (fail)
        go_wp2
        go_ret
        exact ⟨by rw [Hf.out]; rfl, by (repeat (first | with_reducible exact Below.refl _ _ | with_reducible assumption | refine Below.alloc ?_ (by (try simp); try omega) _ | refine Below.setCell ?_ (by (try simp); try omega) _ | refine below_drewN ?_ _ | refine Below.drew ?_ | (with_reducible refine Below.trans ?_ (Below.mono (by assumption) (by (try simp); try omega)))))⟩
      | true =>
        generalize hr : sq n 43 = r at *
        by_cases he : r * r = n
        · have Hf := Lib.hid (show rootR true n = r by rw [hR]; simp [he])
          have hp := fun w => product_any r r w i0 (by omega) i0 (by omega)
          rw [he] at hp
          clear he i1 i2 hr hR
          go_wp2
          go_region_held3 (fun w' => w'.cell? ⟨w.heap.size, 0, none⟩ = some (.int .u64 (hi64 n)) ∧ w'.cell? ⟨w.heap.size, 1, none⟩ = some (.int .u64 (lo64 n)))
            ((go_split_ands; refine ⟨?_, ?_⟩ <;> (first | assumption | exact bkeep hb1 (by assumption))))
            (first | (go_at_call 120; refine (hp _).mono ?_; rintro e w' ⟨rfl, hb1⟩))
          have z1 := hb1.size
          simp at z1
          go_wp2
          go_ret
          exact ⟨by rw [Hf.out]; rfl, by (repeat (first | with_reducible exact Below.refl _ _ | with_reducible assumption | refine Below.alloc ?_ (by (try simp); try omega) _ | refine Below.setCell ?_ (by (try simp); try omega) _ | refine below_drewN ?_ _ | refine Below.drew ?_ | (with_reducible refine Below.trans ?_ (Below.mono (by assumption) (by (try simp); try omega)))))⟩
        · have Hf := Lib.hid (show rootR true n = r + 1 by rw [hR]; simp [he])
          have hp := fun w => product_any r r w i0 (by omega) i0 (by omega)
          by_cases hh : hi64 (r * r) = hi64 n
          · have hb2 : (hi64 (r * r) == hi64 n) = true := by simpa using hh
            have hb3 : (lo64 (r * r) == lo64 n) = false := by
              simp; intro b; apply he; unfold hi64 at hh; unfold lo64 at b; omega
            clear he i1 i2 hr hR hh
            go_wp2
            go_region_held3 (fun w' => w'.cell? ⟨w.heap.size, 0, none⟩ = some (.int .u64 (hi64 n)) ∧ w'.cell? ⟨w.heap.size, 1, none⟩ = some (.int .u64 (lo64 n)))
              ((go_split_ands; refine ⟨?_, ?_⟩ <;> (first | assumption | exact bkeep hb1 (by assumption))))
              (first | (go_at_call 120; refine (hp _).mono ?_; rintro e w' ⟨rfl, hb1⟩))
            have z1 := hb1.size
            simp at z1
            go_wp2
            go_ret
            exact ⟨by rw [Hf.out]; rfl, by (repeat (first | with_reducible exact Below.refl _ _ | with_reducible assumption | refine Below.alloc ?_ (by (try simp); try omega) _ | refine Below.setCell ?_ (by (try simp); try omega) _ | refine below_drewN ?_ _ | refine Below.drew ?_ | (with_reducible refine Below.trans ?_ (Below.mono (by assumption) (by (try simp); try omega)))))⟩
          · have hb2 : (hi64 (r * r) == hi64 n) = false := by simpa using hh
            clear he i1 i2 hr hR hh
            go_wp2
            go_region_held3 (fun w' => w'.cell? ⟨w.heap.size, 0, none⟩ = some (.int .u64 (hi64 n)) ∧ w'.cell? ⟨w.heap.size, 1, none⟩ = some (.int .u64 (lo64 n)))
              ((go_split_ands; refine ⟨?_, ?_⟩ <;> (first | assumption | exact bkeep hb1 (by assumption))))
              (first | (go_at_call 120; refine (hp _).mono ?_; rintro e w' ⟨rfl, hb1⟩))
            have z1 := hb1.size
            simp at z1
            go_wp2
            go_ret
            exact ⟨by rw [Hf.out]; rfl, by (repeat (first | with_reducible exact Below.refl _ _ | with_reducible assumption | refine Below.alloc ?_ (by (try simp); try omega) _ | refine Below.setCell ?_ (by (try simp); try omega) _ | refine below_drewN ?_ _ | refine Below.drew ?_ | (with_reducible refine Below.trans ?_ (Below.mono (by assumption) (by (try simp); try omega)))))⟩

end Go.Proofs.YtnfapdmbkpkkdaaGreat
