/-
  Package span: walks of multiply, increment, zero.
-/
import Derived.Test.YtabnpidmhmebfaaDoorSpM
import Derived.Test.YtabnpidmhmebfaaDoorFixJ
import Derived.Test.YtabnpidmhmebfaaDoorSpA
import Derived.Deep.OwnRows
import Derived.Lib.Hide
import Derived.WalkKit
namespace Go.Proofs.YtabnpidmhmebfaaDoor
open Go.RowKit

theorem add64_0 (x y : Int) (w : World) (x0 : 0 ≤ x) (y0 : 0 ≤ y) :
    (callFunc 83 #[.int .u64 x, .int .u64 y, .int .u64 0]).run Tryd.prog w =
      .ok (.value (.tuple #[.int .u64 (lo64 (x + y)), .int .u64 (hi64 (x + y))])) w := by
  rw [run_callFunc_extern Tryd.func83 (by kernel_rfl) (by kernel_rfl) (by kernel_rfl) (e := add64Entry) (by kernel_rfl), run_add64 x y 0 x0 y0 (by omega) (by omega)]
  simp only [Result.andThen, Int.add_zero]
  rfl

theorem mul_word (D F C : Int) (D0 : 0 ≤ D) (D1 : D ≤ 4294967295) (C0 : 0 ≤ C) (C1 : C ≤ F) (F0 : 0 ≤ F) (F1 : F ≤ 9223372036854775807) :
    lo64 (lo64 (D * F) + C) % 4294967296 = (D * F + C) % 4294967296 ∧
    bits .or .u64 (IntKind.u64.wrap (IntKind.u64.wrap (hi64 (D * F) + hi64 (lo64 (D * F) + C)) * 4294967296)) (lo64 (lo64 (D * F) + C) / 4294967296) = (D * F + C) / 4294967296 := by
  have x0 : 0 ≤ D * F := Int.mul_nonneg D0 F0
  have x1 : D * F ≤ 4294967295 * 9223372036854775807 := Int.mul_le_mul D1 F1 F0 (by omega)
  generalize D * F = X at *
  constructor
  · unfold lo64; omega
  · have hs0 : 0 ≤ hi64 X + hi64 (lo64 X + C) := by unfold hi64 lo64; omega
    have hs1 : hi64 X + hi64 (lo64 X + C) ≤ 2147483648 := by unfold hi64 lo64; omega
    have hv0 : 0 ≤ lo64 (lo64 X + C) / 4294967296 := by unfold lo64; omega
    have hv1 : lo64 (lo64 X + C) / 4294967296 < 4294967296 := by unfold lo64; omega
    have he : (hi64 X + hi64 (lo64 X + C)) * 4294967296 + lo64 (lo64 X + C) / 4294967296 = (X + C) / 4294967296 := by unfold hi64 lo64; omega
    rw [← he]
    generalize hi64 X + hi64 (lo64 X + C) = S at *
    generalize lo64 (lo64 X + C) / 4294967296 = V at *
    rw [wrap_in S hs0 (by omega), wrap_in (S * 4294967296) (by omega) (by omega)]
    exact or_add S V 32 hs0 hv0 (by simpa using hv1) (by simp; omega)

/-- The digits of a number in memory. -/
def Digs (w : World) (b L N : Nat) : Prop := w.rowIs b 41 L (fun i => .int .u32 (dg N i : Nat))

set_option maxRecDepth 100000 in
set_option maxHeartbeats 2000000 in
theorem multiply_any (b L N f : Nat) (w : World) (hL : L ≤ 1000) (hf : f ≤ 9223372036854775807) (hrow : Digs w b L N) :
    Calls Tryd.prog 72 #[.slice (some ⟨b, 0, none⟩) L L, .int .u64 f] w fun e w' => (∃ v, e = .returned v) ∧ Digs w' b L (N * f) ∧ Below b w w' := by
  go_enter Tryd.func72, Tryd.ntmps72
  go_wp2
  go_loopw [4, 12] (fun c i wr => ∃ k : Nat, k ≤ L ∧ i = .int .i64 k ∧ c = .int .u64 (car N f k : Nat) ∧ wr.rowIs b 41 L (fun j => .int .u32 ((if j < k then dg (N * f) j else dg N j : Nat))) ∧ Below b w wr) (fun _ i _ => L - (intOf i).toNat)
  case atStart => exact ⟨0, Nat.zero_le _, rfl, by rw [car_zero]; rfl, hrow.congr (fun i _ => by simp), Below.refl _ _⟩
  case round =>
    clear hrow
    obtain ⟨k, hk, rfl, rfl, hr, hB⟩ := hrel
    by_cases hlt : k < L
    · have hc := hr.cell hlt
      simp only [Nat.lt_irrefl, if_false] at hc
      have hz := hr.frozen k
      have hd := dg_lt N k
      have hcar := car_le N f k
      obtain ⟨s1, s2⟩ := mul_step N f k
      replace s1 : ((((dg N k : Nat) : Int) * (f : Int) + ((car N f k : Nat) : Int)) % 4294967296) = ((dg (N * f) k : Nat) : Int) := by rw [← s1]; omega
      replace s2 : ((((dg N k : Nat) : Int) * (f : Int) + ((car N f k : Nat) : Int)) / 4294967296) = ((car N f (k + 1) : Nat) : Int) := by rw [← s2]; omega
      obtain ⟨D, hD⟩ : ∃ D : Int, ((dg N k : Nat) : Int) = D := ⟨_, rfl⟩
      obtain ⟨C, hC⟩ : ∃ C : Int, ((car N f k : Nat) : Int) = C := ⟨_, rfl⟩
      obtain ⟨F, hF⟩ : ∃ F : Int, (f : Int) = F := ⟨_, rfl⟩
      have D0 : 0 ≤ D := by omega
      have D1 : D ≤ 4294967295 := by omega
      have C0 : 0 ≤ C := by omega
      have C1 : C ≤ F := by omega
      have F0 : 0 ≤ F := by omega
      have F1 : F ≤ 9223372036854775807 := by omega
      have hm := fun w => mul64 D F w (by omega) (by omega) (by omega) (by omega)
      rw [hD] at hc
      rw [hC, hF]
      rw [hD, hC, hF] at s1 s2
      have hl0 := lo64_lt (D * F)
      have ha := fun w => add64_0 (lo64 (D * F)) C w (by omega) (by omega)
      clear hd hcar hD hC hF
      obtain ⟨m1, m2⟩ := mul_word D F C D0 D1 C0 C1 F0 F1
      have E1 := Lib.hid (m1.trans s1)
      have E2 := Lib.hid (m2.trans s2)
      clear m1 m2 s1 s2
      go_wp2_with (first | (go_at_call 82; ((with_reducible refine (hm _).mono ?_); rintro e w' ⟨rfl, rfl⟩)) | (simp only []))
      refine ⟨⟨k + 1, by omega, by go_num, by rw [E2.out], ?_, hB.setCell (by simp) _⟩, by simp [intOf]; omega⟩
      refine (hr.set k _).congr (fun j hj => ?_)
      by_cases e : j = k
      · subst e; simp only [if_true]; rw [E1.out, if_pos (by omega)]
      · rw [if_neg e]
        by_cases e' : j < k
        · rw [if_pos e', if_pos (by omega)]
        · rw [if_neg e', if_neg (by omega)]
    · go_wp2
      go_end0
      exact ⟨⟨_, rfl⟩, hr.congr (fun j hj => by rw [if_pos (by omega)]), hB⟩

end Go.Proofs.YtabnpidmhmebfaaDoor
