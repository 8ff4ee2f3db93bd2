/-
  LongBack: the walk.
-/
import Derived.Test.YtoppdbgodceaiaaDoorLiK
import Derived.ChangeMaps5
namespace Go.Proofs.YtoppdbgodceaiaaDoor
open Go.RowKit

theorem tx_len {x : Int} (hx : 1 ≤ x) {k : Nat} (h : x < 1000000000 ^ k) : (tx x).length ≤ 9 * k := by
  obtain ⟨c, l, e, hc, c0, hl, hd⟩ := tx_form x hx
  rw [e] at hd ⊢
  have e2 := dn_append [c] l
  rw [List.singleton_append, hd] at e2
  have e3 : dn [c] = (c.toNat : Int) - 48 := by simp [dn]
  rw [e3] at e2
  have b := (dn_bounds hl).1
  have hp : (0 : Int) < 10 ^ l.length := Int.pow_pos (by omega)
  unfold isd at hc
  have := Int.mul_le_mul_of_nonneg_right (show (1 : Int) ≤ (c.toNat : Int) - 48 by omega) (show (0 : Int) ≤ 10 ^ l.length by omega)
  rw [List.length_cons]
  rcases Nat.lt_or_ge l.length (9 * k) with h1 | h1
  · omega
  · have h2 := pow10_le h1
    rw [pow9_10] at h2
    omega
theorem isPos_mk {c : UInt8} {l : List UInt8} (hc : isd c) (c0 : c.toNat ≠ 48) (hl : ∀ d ∈ l, isd d) : isPos (c :: l) = true := by
  unfold isPos
  simp only [Bool.and_eq_true, List.all_eq_true, decide_eq_true_eq]
  refine ⟨fun d hd => ?_, by simp, by simpa using c0⟩
  rcases List.mem_cons.1 hd with rfl | h
  · exact hc
  · exact hl d h
/-- The text of a number is one that is parsed to it. -/
theorem pt_sx {z : Int} (h : Dl z ≤ 600) : ∃ l, PText l z := by
  have hlt := Dl_lt z
  have h9 := pow9_le h
  rcases Int.lt_trichotomy z 0 with h0 | h0 | h0
  · obtain ⟨c, l, e, hc, c0, hl, hd⟩ := tx_form (-z) (by omega)
    have hn := tx_len (x := -z) (by omega) (k := 600) (by omega)
    refine ⟨45 :: tx (-z), .inr (.inl ⟨_, rfl, ?_, hn, by omega⟩)⟩
    rw [e]; exact isPos_mk hc c0 hl
  · exact ⟨[48], .inl ⟨rfl, h0⟩⟩
  · obtain ⟨c, l, e, hc, c0, hl, hd⟩ := tx_form z (by omega)
    have hn := tx_len (x := z) (by omega) (k := 600) (by omega)
    refine ⟨tx z, .inr (.inr ⟨?_, hn, hd.symm⟩)⟩
    rw [e]; exact isPos_mk hc c0 hl
/-- A text of at most six hundred characters is that of a number, or it has no form. -/
theorem parse_any (l : List UInt8) (hl : l.length ≤ 600) : (∃ z, PText l z) ∨ ∀ w, Calls Tryd.prog 52 #[.string ⟨⟨l⟩⟩] w fun e w' => e = .returned (.tuple #[noL, .int .i64 5]) ∧ Below w.heap.size w w' := by
  match l, hl with
  | [], _ => exact .inr fun w => parse_empty w
  | c :: t, hl =>
    rw [List.length_cons] at hl
    by_cases hc : c.toNat = 45
    · obtain rfl : c = 45 := UInt8.toNat_inj.1 hc
      cases hp : isPos t
      · exact .inr fun w => parseN_no t w (by omega) hp
      · exact .inl ⟨_, .inr (.inl ⟨t, rfl, hp, by omega, rfl⟩)⟩
    · by_cases h48 : c :: t = [48]
      · exact .inl ⟨0, .inl ⟨h48, rfl⟩⟩
      · cases hp : isPos (c :: t)
        · exact .inr fun w => parseP_no c t w hc h48 (by rw [List.length_cons]; omega) hp
        · exact .inl ⟨_, .inr (.inr ⟨hp, by rw [List.length_cons]; omega, rfl⟩)⟩
set_option maxRecDepth 100000 in
set_option maxHeartbeats 8000000 in
theorem longBack_true (b5 : Bool) (k5 : Int) (s5 : Value) (m5 : List Int) (sv : ByteArray) (w : World) (hP : Pw w) (K50 : 0 ≤ k5) (K51 : k5 ≤ 255) (W5 : Wd w s5 m5) :
    Calls Tryd.prog 14 #[.agg #[.bool b5, .int .u8 k5, s5], .string sv] w fun e w' => e = .returned (.bool true) ∧ Below w.heap.size w w' := by
  have hx := drLong_Dl (b := b5) (k := k5) (m := m5) (fun x hx => (W5.choose_spec.choose_spec.2.2.1 x hx).1) K50
  obtain ⟨n, hn⟩ : ∃ n : Nat, n = min sv.size 600 := ⟨_, rfl⟩
  have n1 : min (sv.size : Int) 600 = (n : Int) := by omega
  have n2 : (n : Int) ≤ (sv.size : Int) := by omega
  have n3 : (0 : Int) ≤ (n : Int) := by omega
  obtain ⟨l2, e2, hl2⟩ : ∃ l2, sv.extract 0 n = ⟨⟨l2⟩⟩ ∧ l2.length ≤ 600 := by
    obtain ⟨⟨L⟩⟩ := sv
    exact ⟨_, extract_bytes L 0 n, by rw [List.length_take]; omega⟩
  clear hn
  have W5' := W5
  obtain ⟨q5, r5, rfl, _⟩ := W5'
  have hB : Below w.heap.size w (w.alloc (.cells #[.bool b5, .int .u8 k5, .slice q5 m5.length r5] 27)) := by (repeat (first | with_reducible exact Below.refl _ _ | with_reducible assumption | refine Below.alloc ?_ (by (try simp); try omega) _ | refine Below.setCell ?_ (by (try simp); try omega) _ | refine below_drewN ?_ _ | refine Below.drew ?_ | (with_reducible refine Below.trans ?_ (Below.mono (by assumption) (by (try simp); try omega)))))
  have d0 : (w.alloc (.cells #[.bool b5, .int .u8 k5, .slice q5 m5.length r5] 27)).cell? ⟨w.heap.size, 0, none⟩ = some (.bool b5) := by simp
  have d1 : (w.alloc (.cells #[.bool b5, .int .u8 k5, .slice q5 m5.length r5] 27)).cell? ⟨w.heap.size, 1, none⟩ = some (.int .u8 k5) := by simp
  have d2 : (w.alloc (.cells #[.bool b5, .int .u8 k5, .slice q5 m5.length r5] 27)).cell? ⟨w.heap.size, 2, none⟩ = some (.slice q5 m5.length r5) := by simp
  go_enter Tryd.func14, Tryd.ntmps14
  go_wp2_with fail
  generalize w.alloc (.cells #[.bool b5, .int .u8 k5, .slice q5 m5.length r5] 27) = w1 at *
  obtain ⟨g, hg⟩ : ∃ g, w.heap.size = g := ⟨_, rfl⟩
  simp only [hg] at d0 d1 d2 ⊢
  rw [← hg]
  go_at_call 16
  refine (works_true _ (hP.keep hB)).mono ?_
  rintro e u1 ⟨rfl, hb⟩
  have hk : Below w1.heap.size w1 u1 := by (repeat (first | with_reducible exact Below.refl _ _ | with_reducible assumption | refine Below.alloc ?_ (by (try simp); try omega) _ | refine Below.setCell ?_ (by (try simp); try omega) _ | refine below_drewN ?_ _ | refine Below.drew ?_ | (with_reducible refine Below.trans ?_ (Below.mono (by assumption) (by (try simp); try omega)))))
  clear hb
  replace d0 := lkeep hk d0
  replace d1 := lkeep hk d1
  replace d2 := lkeep hk d2
  replace hB := hB.trans (hk.mono hB.size)
  clear hk
  go_wp2_with fail
  go_at_call 44
  refine (drLong_any b5 k5 _ m5 _ K50 K51 (W5.keep hB)).mono ?_
  rintro e u2 ⟨⟨pA, aA, nA, kA, rfl, LA⟩, hb⟩
  have hk : Below u1.heap.size u1 u2 := by (repeat (first | with_reducible exact Below.refl _ _ | with_reducible assumption | refine Below.alloc ?_ (by (try simp); try omega) _ | refine Below.setCell ?_ (by (try simp); try omega) _ | refine below_drewN ?_ _ | refine Below.drew ?_ | (with_reducible refine Below.trans ?_ (Below.mono (by assumption) (by (try simp); try omega)))))
  clear hb
  clear d0 d1 d2
  replace hB := hB.trans (hk.mono hB.size)
  clear hk
  generalize drLongZ b5 k5 m5 = x at *
  obtain ⟨l, hPT⟩ := pt_sx (show Dl x ≤ 600 by omega)
  have hsx := sx_of hPT
  have hl6 : (dg (x.natAbs : Int)).length ≤ 600 := by unfold Dl at hx; omega
  go_wp2_with fail
  have hX : Below u2.heap.size u2 (u2.alloc (.cells #[.bool pA, .slice aA nA kA] 24)) := by (repeat (first | with_reducible exact Below.refl _ _ | with_reducible assumption | refine Below.alloc ?_ (by (try simp); try omega) _ | refine Below.setCell ?_ (by (try simp); try omega) _ | refine below_drewN ?_ _ | refine Below.drew ?_ | (with_reducible refine Below.trans ?_ (Below.mono (by assumption) (by (try simp); try omega)))))
  have bA : Bx (u2.alloc (.cells #[.bool pA, .slice aA nA kA] 24)) (u2.heap.size) (.bool pA) (.slice aA nA kA) 24 := by exact (Bx.new u2 (.bool pA) (.slice aA nA kA) 24)
  have gebA : w.heap.size ≤ u2.heap.size := by have := hB.size; omega
  replace LA := LA.keep hX
  replace hB := hB.trans (hX.mono hB.size)
  clear hX
  generalize (u2.alloc (.cells #[.bool pA, .slice aA nA kA] 24)) = v3 at *
  generalize u2.heap.size = gbA at *
  go_at_call 49
  refine (text_num _ x _ LA hl6 (hP.keep hB)).mono ?_
  rintro e u4 ⟨rfl, hb⟩
  have hk : Below v3.heap.size v3 u4 := by (repeat (first | with_reducible exact Below.refl _ _ | with_reducible assumption | refine Below.alloc ?_ (by (try simp); try omega) _ | refine Below.setCell ?_ (by (try simp); try omega) _ | refine below_drewN ?_ _ | refine Below.drew ?_ | (with_reducible refine Below.trans ?_ (Below.mono (by assumption) (by (try simp); try omega)))))
  clear hb
  replace LA := LA.keep hk
  replace bA := bA.keep hk
  replace hB := hB.trans (hk.mono hB.size)
  clear hk
  rw [hsx]
  go_wp2_with fail
  go_at_call 52
  refine (parse_num l x _ hPT).mono ?_
  rintro e u5 ⟨⟨pB, aB, nB, kB, rfl, LB⟩, hb⟩
  have hk : Below u4.heap.size u4 u5 := by (repeat (first | with_reducible exact Below.refl _ _ | with_reducible assumption | refine Below.alloc ?_ (by (try simp); try omega) _ | refine Below.setCell ?_ (by (try simp); try omega) _ | refine below_drewN ?_ _ | refine Below.drew ?_ | (with_reducible refine Below.trans ?_ (Below.mono (by assumption) (by (try simp); try omega)))))
  clear hb
  replace LA := LA.keep hk
  replace bA := bA.keep hk
  replace hB := hB.trans (hk.mono hB.size)
  clear hk
  have rbA0 : (u5.alloc (.cells #[.bool pB, .slice aB nB kB] 24)).cell? ⟨gbA, 0, none⟩ = some (.bool pA) := (bA.alloc _).c0
  have rbA1 : (u5.alloc (.cells #[.bool pB, .slice aB nB kB] 24)).cell? ⟨gbA, 1, none⟩ = some (.slice aA nA kA) := (bA.alloc _).c1
  go_wp2_with fail
  clear rbA0 rbA1
  have hX : Below u5.heap.size u5 (u5.alloc (.cells #[.bool pB, .slice aB nB kB] 24)) := by (repeat (first | with_reducible exact Below.refl _ _ | with_reducible assumption | refine Below.alloc ?_ (by (try simp); try omega) _ | refine Below.setCell ?_ (by (try simp); try omega) _ | refine below_drewN ?_ _ | refine Below.drew ?_ | (with_reducible refine Below.trans ?_ (Below.mono (by assumption) (by (try simp); try omega)))))
  have bB : Bx (u5.alloc (.cells #[.bool pB, .slice aB nB kB] 24)) (u5.heap.size) (.bool pB) (.slice aB nB kB) 24 := by exact (Bx.new u5 (.bool pB) (.slice aB nB kB) 24)
  have gebB : w.heap.size ≤ u5.heap.size := by have := hB.size; omega
  have ltbAbB : gbA < u5.heap.size := by have := bA.lt; omega
  replace LA := LA.keep hX
  replace LB := LB.keep hX
  replace bA := bA.keep hX
  replace hB := hB.trans (hX.mono hB.size)
  clear hX
  generalize (u5.alloc (.cells #[.bool pB, .slice aB nB kB] 24)) = v6 at *
  generalize u5.heap.size = gbB at *
  go_at_call 27
  refine (same_lg _ _ x _ LA LB (by omega)).mono ?_
  rintro e u7 ⟨rfl, hb⟩
  have hk : Below v6.heap.size v6 u7 := by (repeat (first | with_reducible exact Below.refl _ _ | with_reducible assumption | refine Below.alloc ?_ (by (try simp); try omega) _ | refine Below.setCell ?_ (by (try simp); try omega) _ | refine below_drewN ?_ _ | refine Below.drew ?_ | (with_reducible refine Below.trans ?_ (Below.mono (by assumption) (by (try simp); try omega)))))
  clear hb
  replace LA := LA.keep hk
  replace LB := LB.keep hk
  replace bA := bA.keep hk
  replace bB := bB.keep hk
  replace hB := hB.trans (hk.mono hB.size)
  clear hk
  clear LA LB bA
  clear hsx hPT
  go_wp2_with fail
  rcases parse_any l2 hl2 with ⟨z, hPZ⟩ | hno
  · go_at_call 52
    refine (parse_num l2 z _ hPZ).mono ?_
    rintro e u8 ⟨⟨pC, aC, nC, kC, rfl, LC⟩, hb⟩
    have hk : Below u7.heap.size u7 u8 := by (repeat (first | with_reducible exact Below.refl _ _ | with_reducible assumption | refine Below.alloc ?_ (by (try simp); try omega) _ | refine Below.setCell ?_ (by (try simp); try omega) _ | refine below_drewN ?_ _ | refine Below.drew ?_ | (with_reducible refine Below.trans ?_ (Below.mono (by assumption) (by (try simp); try omega)))))
    clear hb
    replace bB := bB.keep hk
    replace hB := hB.trans (hk.mono hB.size)
    clear hk
    have hsz := sx_of hPZ
    have hz := hPZ.len
    have hz6 : (dg (z.natAbs : Int)).length ≤ 600 := by unfold Dl at hz; omega
    have rbB0 := bB.c0
    have rbB1 := bB.c1
    have zbB0 := bB.f 0
    have zbB1 := bB.f 1
    go_wp2_with fail
    clear rbB0 rbB1 zbB0 zbB1
    replace LC : Lg ((u8.setCell ⟨gbB, 0, none⟩ (.bool pC)).setCell ⟨gbB, 1, none⟩ (.slice aC nC kC)) _ _ := LC.put bB _ _ _ _
    replace bB : Bx ((u8.setCell ⟨gbB, 0, none⟩ (.bool pC)).setCell ⟨gbB, 1, none⟩ (.slice aC nC kC)) _ _ _ _ := bB.putP _ _
    replace hB : Below w.heap.size w ((u8.setCell ⟨gbB, 0, none⟩ (.bool pC)).setCell ⟨gbB, 1, none⟩ (.slice aC nC kC)) := (hB.setCell gebB _).setCell gebB _
    generalize ((u8.setCell ⟨gbB, 0, none⟩ (.bool pC)).setCell ⟨gbB, 1, none⟩ (.slice aC nC kC)) = v90 at *
    go_at_call 49
    refine (text_num _ z _ LC hz6 (hP.keep hB)).mono ?_
    rintro e u10 ⟨rfl, hb⟩
    have hk : Below v90.heap.size v90 u10 := by (repeat (first | with_reducible exact Below.refl _ _ | with_reducible assumption | refine Below.alloc ?_ (by (try simp); try omega) _ | refine Below.setCell ?_ (by (try simp); try omega) _ | refine below_drewN ?_ _ | refine Below.drew ?_ | (with_reducible refine Below.trans ?_ (Below.mono (by assumption) (by (try simp); try omega)))))
    clear hb
    replace LC := LC.keep hk
    replace bB := bB.keep hk
    replace hB := hB.trans (hk.mono hB.size)
    clear hk
    rw [hsz]
    clear LC bB hsz hPZ
    go_wp2
    go_ret
    exact ⟨rfl, hB⟩
  · go_at_call 52
    refine (hno _).mono ?_
    rintro e u8 ⟨rfl, hb⟩
    have hk : Below u7.heap.size u7 u8 := by (repeat (first | with_reducible exact Below.refl _ _ | with_reducible assumption | refine Below.alloc ?_ (by (try simp); try omega) _ | refine Below.setCell ?_ (by (try simp); try omega) _ | refine below_drewN ?_ _ | refine Below.drew ?_ | (with_reducible refine Below.trans ?_ (Below.mono (by assumption) (by (try simp); try omega)))))
    clear hb
    replace bB := bB.keep hk
    replace hB := hB.trans (hk.mono hB.size)
    clear hk
    have rbB0 := bB.c0
    have rbB1 := bB.c1
    have zbB0 := bB.f 0
    have zbB1 := bB.f 1
    go_wp2
    go_ret
    exact ⟨rfl, (hB.setCell gebB _).setCell gebB _⟩
end Go.Proofs.YtoppdbgodceaiaaDoor
