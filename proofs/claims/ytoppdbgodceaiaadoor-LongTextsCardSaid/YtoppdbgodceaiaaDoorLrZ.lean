/-
  LongTexts: the walk.
-/
import Derived.Test.YtoppdbgodceaiaaDoorLrY
namespace Go.Proofs.YtoppdbgodceaiaaDoor
open Go.RowKit

theorem itoa_len {z : Int} {k : Nat} (h : Dl z ≤ k) (hk : 1 ≤ k) : (Lib.itoa z).length ≤ 1 + 9 * k := by
  rw [itoa_sign, List.length_append]
  have h9 := pow9_le h
  have hz := Dl_lt z
  have h1 : (if z < 0 then [(45 : UInt8)] else []).length ≤ 1 := by split <;> simp
  by_cases h0 : z = 0
  · subst h0
    have e : tx (((0 : Int).natAbs : Nat) : Int) = [48] := by unfold tx; rw [Lib.decDigits_one (by simp)]; rfl
    rw [e]; simp; try omega
  · have := tx_len (x := (z.natAbs : Int)) (by omega) (k := k) (by omega)
    omega
set_option maxRecDepth 100000 in
set_option maxHeartbeats 16000000 in
theorem longTexts_true (b6 : Bool) (s6 : Value) (l6 : List Int) (b5 : Bool) (k5 : Int) (s5 : Value) (m5 : List Int) (sv : ByteArray) (A C : Int) (w : World) (hP : Pw w) (L6 : Ls w s6 l6) (N6 : l6.length ≤ 9223372036854775807) (K50 : 0 ≤ k5) (K51 : k5 ≤ 255) (W5 : Wd w s5 m5) (A0 : 0 ≤ A) (A1 : A ≤ 65535) (C0 : 0 ≤ C) (C1 : C ≤ 255) :
    Calls Tryd.prog 8 #[.agg #[.bool b6, s6], .agg #[.bool b5, .int .u8 k5, s5], .string sv, .int .u16 A, .int .u8 C] w fun e w' => e = .returned (.bool true) ∧ Below w.heap.size w w' := by
  have hxL := drLong_Dl (b := b5) (k := k5) (m := m5) (fun x hx => (W5.choose_spec.choose_spec.2.2.1 x hx).1) K50
  have hi0 : ∀ (p0 : Bool) (a0 : Option Addr) (n0 c0 : Nat) (p1 : Bool) (a1 : Option Addr) (n1 c1 : Nat) w, (Instr.index 35 (.agg #[.bool p0, .slice a0 n0 c0, .bool p1, .slice a1 n1 c1]) (.int .i64 0)).run Tryd.prog w = .ok (.agg #[.bool p0, .slice a0 n0 c0]) w := fun _ _ _ _ _ _ _ _ _ => by kernel_rfl
  have hi1 : ∀ (p0 : Bool) (a0 : Option Addr) (n0 c0 : Nat) (p1 : Bool) (a1 : Option Addr) (n1 c1 : Nat) w, (Instr.index 35 (.agg #[.bool p0, .slice a0 n0 c0, .bool p1, .slice a1 n1 c1]) (.int .i64 1)).run Tryd.prog w = .ok (.agg #[.bool p1, .slice a1 n1 c1]) w := fun _ _ _ _ _ _ _ _ _ => by kernel_rfl
  have hj0 : ∀ (S0 S1 S2 S3 : ByteArray) w, (Instr.index 60 (.agg #[.string S0, .string S1, .string S2, .string S3]) (.int .i64 0)).run Tryd.prog w = .ok (.string S0) w := fun _ _ _ _ _ => by kernel_rfl
  have hj1 : ∀ (S0 S1 S2 S3 : ByteArray) w, (Instr.index 60 (.agg #[.string S0, .string S1, .string S2, .string S3]) (.int .i64 1)).run Tryd.prog w = .ok (.string S1) w := fun _ _ _ _ _ => by kernel_rfl
  have hj2 : ∀ (S0 S1 S2 S3 : ByteArray) w, (Instr.index 60 (.agg #[.string S0, .string S1, .string S2, .string S3]) (.int .i64 2)).run Tryd.prog w = .ok (.string S2) w := fun _ _ _ _ _ => by kernel_rfl
  have hj3 : ∀ (S0 S1 S2 S3 : ByteArray) w, (Instr.index 60 (.agg #[.string S0, .string S1, .string S2, .string S3]) (.int .i64 3)).run Tryd.prog w = .ok (.string S3) w := fun _ _ _ _ _ => by kernel_rfl
  obtain ⟨cc, hcc⟩ : ∃ cc : UInt8, C = (cc.toNat : Int) := ⟨UInt8.ofNat C.toNat, by simp; try omega⟩
  subst hcc
  obtain ⟨n, hn⟩ : ∃ n : Nat, n = min sv.size 600 := ⟨_, rfl⟩
  have n1 : min (sv.size : Int) 600 = (n : Int) := by omega
  have n2 : (n : Int) ≤ (sv.size : Int) := by omega
  have n3 : (0 : Int) ≤ (n : Int) := by omega
  obtain ⟨t0, et0, ht0⟩ : ∃ t0, sv.extract 0 n = ⟨⟨t0⟩⟩ ∧ t0.length ≤ 600 := by
    obtain ⟨⟨L⟩⟩ := sv
    exact ⟨_, extract_bytes L 0 n, by rw [List.length_take]; omega⟩
  clear hn
  have L6' := L6
  have W5' := W5
  obtain ⟨q6, r6, rfl, _⟩ := L6'
  obtain ⟨q5, r5, rfl, _⟩ := W5'
  have hB : Below w.heap.size w ((w.alloc (.cells #[.bool b6, .slice q6 l6.length r6] 24)).alloc (.cells #[.bool b5, .int .u8 k5, .slice q5 m5.length r5] 27)) := by (repeat (first | with_reducible exact Below.refl _ _ | with_reducible assumption | refine Below.alloc ?_ (by (try simp); try omega) _ | refine Below.setCell ?_ (by (try simp); try omega) _ | refine below_drewN ?_ _ | refine Below.drew ?_ | (with_reducible refine Below.trans ?_ (Below.mono (by assumption) (by (try simp); try omega)))))
  have c0 : ((w.alloc (.cells #[.bool b6, .slice q6 l6.length r6] 24)).alloc (.cells #[.bool b5, .int .u8 k5, .slice q5 m5.length r5] 27)).cell? ⟨w.heap.size, 0, none⟩ = some (.bool b6) := by simp
  have c1 : ((w.alloc (.cells #[.bool b6, .slice q6 l6.length r6] 24)).alloc (.cells #[.bool b5, .int .u8 k5, .slice q5 m5.length r5] 27)).cell? ⟨w.heap.size, 1, none⟩ = some (.slice q6 l6.length r6) := by simp
  have e0 : ((w.alloc (.cells #[.bool b6, .slice q6 l6.length r6] 24)).alloc (.cells #[.bool b5, .int .u8 k5, .slice q5 m5.length r5] 27)).cell? ⟨w.heap.size + 1, 0, none⟩ = some (.bool b5) := by simp
  have e1 : ((w.alloc (.cells #[.bool b6, .slice q6 l6.length r6] 24)).alloc (.cells #[.bool b5, .int .u8 k5, .slice q5 m5.length r5] 27)).cell? ⟨w.heap.size + 1, 1, none⟩ = some (.int .u8 k5) := by simp
  have e2 : ((w.alloc (.cells #[.bool b6, .slice q6 l6.length r6] 24)).alloc (.cells #[.bool b5, .int .u8 k5, .slice q5 m5.length r5] 27)).cell? ⟨w.heap.size + 1, 2, none⟩ = some (.slice q5 m5.length r5) := by simp
  obtain ⟨zL, hzL⟩ : ∃ zL, drLongZ b5 k5 m5 = zL := ⟨_, rfl⟩
  rw [hzL] at hxL
  have hdl := fun w h => drLong_any b5 k5 (.slice q5 m5.length r5) m5 w K50 K51 h
  rw [hzL] at hdl
  clear hzL
  replace hdl := Lib.hid hdl
  have how := fun w h => own_any b6 (.slice q6 l6.length r6) l6 w h N6
  replace how := Lib.hid how
  have hT5 : (Lib.itoa zL).length ≤ 424 := itoa_len hxL (by omega)
  have hsx : sx zL = ⟨⟨Lib.itoa zL⟩⟩ := rfl
  obtain ⟨T, hT⟩ : ∃ T, Lib.itoa zL = T := ⟨_, rfl⟩
  rw [hT] at hT5 hsx
  clear hT
  go_enter Tryd.func8, Tryd.ntmps8
  go_wp2_with fail
  generalize ((w.alloc (.cells #[.bool b6, .slice q6 l6.length r6] 24)).alloc (.cells #[.bool b5, .int .u8 k5, .slice q5 m5.length r5] 27)) = w1 at *
  obtain ⟨g, hg⟩ : ∃ g, w.heap.size = g := ⟨_, rfl⟩
  simp only [hg] at c0 c1 e0 e1 e2 ⊢
  rw [← hg]

  go_at_call 16
  refine (works_true _ (hP.keep hB)).mono ?_
  rintro e u1 ⟨rfl, hb⟩
  have hk : Below w1.heap.size w1 u1 := by (repeat (first | with_reducible exact Below.refl _ _ | with_reducible assumption | refine Below.alloc ?_ (by (try simp); try omega) _ | refine Below.setCell ?_ (by (try simp); try omega) _ | refine below_drewN ?_ _ | refine Below.drew ?_ | (with_reducible refine Below.trans ?_ (Below.mono (by assumption) (by (try simp); try omega)))))
  clear hb
  replace c0 := lkeep hk c0
  replace c1 := lkeep hk c1
  replace e0 := lkeep hk e0
  replace e1 := lkeep hk e1
  replace e2 := lkeep hk e2
  replace hB := hB.trans (hk.mono hB.size)
  clear hk
  go_wp2_with fail
  replace hB : Below w.heap.size w u1.drew := hB.drew
  replace c0 : u1.drew.cell? _ = _ := c0
  replace c1 : u1.drew.cell? _ = _ := c1
  replace e0 : u1.drew.cell? _ = _ := e0
  replace e1 : u1.drew.cell? _ = _ := e1
  replace e2 : u1.drew.cell? _ = _ := e2
  go_region_held3 (fun w' => w'.cell? ⟨g, 0, none⟩ = some (.bool b6) ∧ w'.cell? ⟨g, 1, none⟩ = some (.slice q6 l6.length r6) ∧ w'.cell? ⟨g + 1, 0, none⟩ = some (.bool b5) ∧ w'.cell? ⟨g + 1, 1, none⟩ = some (.int .u8 k5) ∧ w'.cell? ⟨g + 1, 2, none⟩ = some (.slice q5 m5.length r5))
    (exact ⟨c0, c1, e0, e1, e2⟩)
    (first | (go_at_call 28; (with_reducible refine (how.out _ (L6.keep hB)).mono ?_); rintro e uz0 ⟨a0, n0, c0', rfl, F0, hb0⟩; replace c0 := lkeep hb0 c0; replace c1 := lkeep hb0 c1; replace e0 := lkeep hb0 e0; replace e1 := lkeep hb0 e1; replace e2 := lkeep hb0 e2; replace hB := hB.trans (hb0.mono hB.size); clear hb0) | (go_at_call 44; (with_reducible refine (hdl.out _ (W5.keep hB)).mono ?_); rintro e uz1 ⟨⟨p1, a1, n1, c1', rfl, F1⟩, hb1⟩; replace F0 := F0.keep hb1; replace c0 := lkeep hb1 c0; replace c1 := lkeep hb1 c1; replace e0 := lkeep hb1 e0; replace e1 := lkeep hb1 e1; replace e2 := lkeep hb1 e2; replace hB := hB.trans (hb1.mono hB.size); clear hb1))
  clear L6 c0 c1 how
  have t0' : (l6.take 60).length ≤ 65 := by rw [List.length_take]; omega
  generalize l6.take 60 = l0 at *
  obtain ⟨S0, er0, hA0, hB0⟩ := text_both b6 l0 t0'
  clear t0'
  have G1 := F1.parts.2
  obtain ⟨S1, er1, hA1, hB1⟩ := text_both p1 (dg ((zL : Int).natAbs : Int)) (by have h65 : Dl zL ≤ 65 := (by omega); unfold Dl at h65; exact h65)
  have G0 := F0
  clear F0 F1
  generalize dg ((zL : Int).natAbs : Int) = l1 at *
  replace hA0 := Lib.hid hA0
  replace hB0 := Lib.hid hB0
  replace hA1 := Lib.hid hA1
  replace hB1 := Lib.hid hB1
  go_wp2_with fail
  refine wp_loop_rounds 3 ?_
  rw [rounds_succ]
  go_wp2_with fail
  have hX : Below uz1.heap.size uz1 (uz1.alloc (.cells #[.bool b6, .slice a0 n0 c0'] 24)) := by (repeat (first | with_reducible exact Below.refl _ _ | with_reducible assumption | refine Below.alloc ?_ (by (try simp); try omega) _ | refine Below.setCell ?_ (by (try simp); try omega) _ | refine below_drewN ?_ _ | refine Below.drew ?_ | (with_reducible refine Below.trans ?_ (Below.mono (by assumption) (by (try simp); try omega)))))
  have bX0 : Bx (uz1.alloc (.cells #[.bool b6, .slice a0 n0 c0'] 24)) (uz1.heap.size) (.bool b6) (.slice a0 n0 c0') 24 := by exact (Bx.new uz1 (.bool b6) (.slice a0 n0 c0') 24)
  have gebX0 : w.heap.size ≤ uz1.heap.size := by have := hB.size; omega
  replace G0 := G0.keep hX
  replace G1 := G1.keep hX
  replace e0 := lkeep hX e0
  replace e1 := lkeep hX e1
  replace e2 := lkeep hX e2
  replace hB := hB.trans (hX.mono hB.size)
  clear hX
  generalize (uz1.alloc (.cells #[.bool b6, .slice a0 n0 c0'] 24)) = v2 at *
  generalize uz1.heap.size = gbX0 at *
  go_at_call 49
  refine (hA0.out _ _ G0 (hP.keep hB)).mono ?_
  rintro e u3 ⟨rfl, hb⟩
  have hk : Below v2.heap.size v2 u3 := by (repeat (first | with_reducible exact Below.refl _ _ | with_reducible assumption | refine Below.alloc ?_ (by (try simp); try omega) _ | refine Below.setCell ?_ (by (try simp); try omega) _ | refine below_drewN ?_ _ | refine Below.drew ?_ | (with_reducible refine Below.trans ?_ (Below.mono (by assumption) (by (try simp); try omega)))))
  clear hb
  replace G0 := G0.keep hk
  replace G1 := G1.keep hk
  replace bX0 := bX0.keep hk
  replace e0 := lkeep hk e0
  replace e1 := lkeep hk e1
  replace e2 := lkeep hk e2
  replace hB := hB.trans (hk.mono hB.size)
  clear hk
  have rbX00 : u3.cell? ⟨gbX0, 0, none⟩ = some (.bool b6) := bX0.c0
  have rbX01 : u3.cell? ⟨gbX0, 1, none⟩ = some (.slice a0 n0 c0') := bX0.c1
  go_wp2_with fail
  clear rbX00 rbX01
  go_at_call 50
  refine (hB0.out _ _ G0).mono ?_
  rintro e u4 ⟨rfl, hb⟩
  have hk : Below u3.heap.size u3 u4 := by (repeat (first | with_reducible exact Below.refl _ _ | with_reducible assumption | refine Below.alloc ?_ (by (try simp); try omega) _ | refine Below.setCell ?_ (by (try simp); try omega) _ | refine below_drewN ?_ _ | refine Below.drew ?_ | (with_reducible refine Below.trans ?_ (Below.mono (by assumption) (by (try simp); try omega)))))
  clear hb
  replace G0 := G0.keep hk
  replace G1 := G1.keep hk
  replace bX0 := bX0.keep hk
  replace e0 := lkeep hk e0
  replace e1 := lkeep hk e1
  replace e2 := lkeep hk e2
  replace hB := hB.trans (hk.mono hB.size)
  clear hk
  clear G0 bX0
  go_wp2_with fail
  rw [rounds_succ]
  go_wp2_with fail
  have hX : Below u4.heap.size u4 (u4.alloc (.cells #[.bool p1, .slice a1 n1 c1'] 24)) := by (repeat (first | with_reducible exact Below.refl _ _ | with_reducible assumption | refine Below.alloc ?_ (by (try simp); try omega) _ | refine Below.setCell ?_ (by (try simp); try omega) _ | refine below_drewN ?_ _ | refine Below.drew ?_ | (with_reducible refine Below.trans ?_ (Below.mono (by assumption) (by (try simp); try omega)))))
  have bX1 : Bx (u4.alloc (.cells #[.bool p1, .slice a1 n1 c1'] 24)) (u4.heap.size) (.bool p1) (.slice a1 n1 c1') 24 := by exact (Bx.new u4 (.bool p1) (.slice a1 n1 c1') 24)
  have gebX1 : w.heap.size ≤ u4.heap.size := by have := hB.size; omega
  replace G1 := G1.keep hX
  replace e0 := lkeep hX e0
  replace e1 := lkeep hX e1
  replace e2 := lkeep hX e2
  replace hB := hB.trans (hX.mono hB.size)
  clear hX
  generalize (u4.alloc (.cells #[.bool p1, .slice a1 n1 c1'] 24)) = v5 at *
  generalize u4.heap.size = gbX1 at *
  go_at_call 49
  refine (hA1.out _ _ G1 (hP.keep hB)).mono ?_
  rintro e u6 ⟨rfl, hb⟩
  have hk : Below v5.heap.size v5 u6 := by (repeat (first | with_reducible exact Below.refl _ _ | with_reducible assumption | refine Below.alloc ?_ (by (try simp); try omega) _ | refine Below.setCell ?_ (by (try simp); try omega) _ | refine below_drewN ?_ _ | refine Below.drew ?_ | (with_reducible refine Below.trans ?_ (Below.mono (by assumption) (by (try simp); try omega)))))
  clear hb
  replace G1 := G1.keep hk
  replace bX1 := bX1.keep hk
  replace e0 := lkeep hk e0
  replace e1 := lkeep hk e1
  replace e2 := lkeep hk e2
  replace hB := hB.trans (hk.mono hB.size)
  clear hk
  have rbX10 : u6.cell? ⟨gbX1, 0, none⟩ = some (.bool p1) := bX1.c0
  have rbX11 : u6.cell? ⟨gbX1, 1, none⟩ = some (.slice a1 n1 c1') := bX1.c1
  go_wp2_with fail
  clear rbX10 rbX11
  go_at_call 50
  refine (hB1.out _ _ G1).mono ?_
  rintro e u7 ⟨rfl, hb⟩
  have hk : Below u6.heap.size u6 u7 := by (repeat (first | with_reducible exact Below.refl _ _ | with_reducible assumption | refine Below.alloc ?_ (by (try simp); try omega) _ | refine Below.setCell ?_ (by (try simp); try omega) _ | refine below_drewN ?_ _ | refine Below.drew ?_ | (with_reducible refine Below.trans ?_ (Below.mono (by assumption) (by (try simp); try omega)))))
  clear hb
  replace G1 := G1.keep hk
  replace bX1 := bX1.keep hk
  replace e0 := lkeep hk e0
  replace e1 := lkeep hk e1
  replace e2 := lkeep hk e2
  replace hB := hB.trans (hk.mono hB.size)
  clear hk
  clear G1 bX1
  go_wp2_with fail
  rw [rounds_succ]
  go_wp2_with fail
  go_at_call 44
  refine (hdl.out _ (W5.keep hB)).mono ?_
  rintro e u8 ⟨⟨pL, aL, nL, kL, rfl, LL⟩, hb⟩
  have hk : Below u7.heap.size u7 u8 := by (repeat (first | with_reducible exact Below.refl _ _ | with_reducible assumption | refine Below.alloc ?_ (by (try simp); try omega) _ | refine Below.setCell ?_ (by (try simp); try omega) _ | refine below_drewN ?_ _ | refine Below.drew ?_ | (with_reducible refine Below.trans ?_ (Below.mono (by assumption) (by (try simp); try omega)))))
  clear hb
  replace e0 := lkeep hk e0
  replace e1 := lkeep hk e1
  replace e2 := lkeep hk e2
  replace hB := hB.trans (hk.mono hB.size)
  clear hk
  go_wp2_with fail
  go_at_call 51
  refine (rdec_num _ zL _ LL (by unfold Dl at hxL; omega)).mono ?_
  rintro e u9 ⟨rfl, hb⟩
  have hk : Below u8.heap.size u8 u9 := by (repeat (first | with_reducible exact Below.refl _ _ | with_reducible assumption | refine Below.alloc ?_ (by (try simp); try omega) _ | refine Below.setCell ?_ (by (try simp); try omega) _ | refine below_drewN ?_ _ | refine Below.drew ?_ | (with_reducible refine Below.trans ?_ (Below.mono (by assumption) (by (try simp); try omega)))))
  clear hb
  replace LL := LL.keep hk
  replace e0 := lkeep hk e0
  replace e1 := lkeep hk e1
  replace e2 := lkeep hk e2
  replace hB := hB.trans (hk.mono hB.size)
  clear hk
  rw [hsx]
  clear LL e0 e1 e2 W5 hsx hdl hi0 hi1 hxL
  obtain ⟨m, hm⟩ : ∃ m : Nat, A % ((T.length : Int) + 1) = (m : Int) := ⟨(A % ((T.length : Int) + 1)).toNat, by have := Int.emod_nonneg A (show ((T.length : Int) + 1) ≠ 0 by omega); omega⟩
  have hmT : m ≤ T.length := by have := Int.emod_lt_of_pos A (show (0 : Int) < (T.length : Int) + 1 by omega); omega
  have hmI : (m : Int) ≤ (T.length : Int) := by omega
  have hsT : (⟨⟨T⟩⟩ : ByteArray).size = T.length := rfl
  have x1 : (⟨⟨T⟩⟩ : ByteArray).extract 0 m = ⟨⟨T.take m⟩⟩ := by rw [extract_bytes]; simp
  have x2 : (⟨⟨T⟩⟩ : ByteArray).extract m T.length = ⟨⟨T.drop m⟩⟩ := by rw [extract_bytes, List.take_of_length_le (by simp)]
  obtain ⟨ST, hST⟩ : ∃ ST, ST = (⟨⟨T⟩⟩ : ByteArray) := ⟨_, rfl⟩
  rw [← hST] at hsT x1 x2 ⊢
  replace hST := Lib.hid hST
  have x3 : (⟨⟨T.take m⟩⟩ : ByteArray) ++ ⟨⟨[cc]⟩⟩ = ⟨⟨T.take m ++ [cc]⟩⟩ := by apply ByteArray.ext; simp
  have x4 : (⟨⟨T.take m ++ [cc]⟩⟩ : ByteArray) ++ ⟨⟨T.drop m⟩⟩ = ⟨⟨T.take m ++ cc :: T.drop m⟩⟩ := by apply ByteArray.ext; simp
  have f1 : ¬ (9223372036854775807 < (⟨⟨T.take m⟩⟩ : ByteArray).size + (⟨⟨[cc]⟩⟩ : ByteArray).size) := by show ¬ (9223372036854775807 < (T.take m).length + [cc].length); rw [List.length_take, List.length_singleton]; omega
  have f2 : ¬ (9223372036854775807 < (⟨⟨T.take m ++ [cc]⟩⟩ : ByteArray).size + (⟨⟨T.drop m⟩⟩ : ByteArray).size) := by show ¬ (9223372036854775807 < (T.take m ++ [cc]).length + (T.drop m).length); rw [List.length_append, List.length_take, List.length_drop, List.length_singleton]; omega
  obtain ⟨U1, hU1⟩ : ∃ U, U = (⟨⟨T.take m⟩⟩ : ByteArray) := ⟨_, rfl⟩
  rw [← hU1] at x1 x3 f1
  obtain ⟨U2, hU2⟩ : ∃ U, U = (⟨⟨T.drop m⟩⟩ : ByteArray) := ⟨_, rfl⟩
  rw [← hU2] at x2 x4 f2
  obtain ⟨U3, hU3⟩ : ∃ U, U = (⟨⟨[cc]⟩⟩ : ByteArray) := ⟨_, rfl⟩
  rw [← hU3] at x3 f1
  obtain ⟨U4, hU4⟩ : ∃ U, U = (⟨⟨T.take m ++ [cc]⟩⟩ : ByteArray) := ⟨_, rfl⟩
  rw [← hU4] at x3 x4 f2
  obtain ⟨U5, hU5⟩ : ∃ U, U = (⟨⟨T.take m ++ cc :: T.drop m⟩⟩ : ByteArray) := ⟨_, rfl⟩
  rw [← hU5] at x4
  replace hU1 := Lib.hid hU1
  replace hU2 := Lib.hid hU2
  replace hU4 := Lib.hid hU4
  replace hU5 := Lib.hid hU5
  go_upto_region 13 with fail
  have hcv : ∀ (w' : World) (g' : Nat), w'.cell? ⟨g', 0, none⟩ = some (.int .u8 (cc.toNat : Int)) → (Go.convert 59 9 (.slice (some ⟨g', 0, none⟩) 1 1)).run Tryd.prog w' = .ok (.string U3) w' := fun w' g' h => by rw [hU3]; exact run_convert_bytes_back w' 59 9 5 ⟨g', 0, none⟩ 1 [cc] Tryd.underlying59 Tryd.underlying5 Tryd.underlying9 (fun i hi => by obtain rfl : i = 0 := (by simpa using hi); rw [Lib.add_plain]; simpa using h)
  clear hU3
  have kA := hcv (u9.alloc (.cells #[.int .u8 (cc.toNat : Int)] 5)) u9.heap.size (by simp)
  have kB := hcv (u9.alloc (.cells #[.int .u8 (cc.toNat : Int)] 5)).drew u9.heap.size (show (u9.alloc (.cells #[.int .u8 (cc.toNat : Int)] 5)).cell? _ = _ by simp)
  have kC := hcv (u9.drew.alloc (.cells #[.int .u8 (cc.toNat : Int)] 5)) u9.heap.size (by have := one_at u9.drew (.int .u8 (cc.toNat : Int)) 5 0 _ rfl; rw [Lib.add_plain] at this; exact this)
  clear hcv
  go_cut [83, 84] from 14 (fun v83 v84 wx => v83 = .agg #[.string ⟨⟨t0⟩⟩, .string ⟨⟨T⟩⟩, .string ⟨⟨T.take m ++ cc :: T.drop m⟩⟩, .string ⟨⟨T.drop m⟩⟩] ∧ v84 = .int .i64 0 ∧ Below w.heap.size w wx)
  case first =>
    have hsB := hB.size
    go_region_held (fun w' => True) (exact trivial) (fail)
    all_goals (go_wp2_with fail; go_meet)
    all_goals exact ⟨by rw [hST.out, hU5.out, hU2.out], rfl, by (repeat (first | with_reducible exact Below.refl _ _ | with_reducible assumption | refine Below.alloc ?_ (by (try simp); try omega) _ | refine Below.setCell ?_ (by (try simp); try omega) _ | refine below_drewN ?_ _ | refine Below.drew ?_ | (with_reducible refine Below.trans ?_ (Below.mono (by assumption) (by (try simp); try omega)))))⟩
  case rest =>
    clear hB
    obtain ⟨rfl, rfl, hB⟩ := hcut
    obtain ⟨z0, r0, hz0, hA0, hB0⟩ := parse_both t0 (ht0)
    replace hA0 := Lib.hid hA0
    replace hB0 := Lib.hid hB0
    obtain ⟨z1, r1, hz1, hA1, hB1⟩ := parse_both T (by omega)
    replace hA1 := Lib.hid hA1
    replace hB1 := Lib.hid hB1
    obtain ⟨z2, r2, hz2, hA2, hB2⟩ := parse_both (T.take m ++ cc :: T.drop m) (by rw [List.length_append, List.length_cons, List.length_take, List.length_drop]; omega)
    replace hA2 := Lib.hid hA2
    replace hB2 := Lib.hid hB2
    obtain ⟨z3, r3, hz3, hA3, hB3⟩ := parse_both (T.drop m) (by rw [List.length_drop]; omega)
    replace hA3 := Lib.hid hA3
    replace hB3 := Lib.hid hB3
    go_wp2_with fail
    refine wp_loop_rounds 5 ?_
    rw [rounds_succ]
    go_wp2_with fail
    go_at_call 52
    refine (hA0.out _).mono ?_
    rintro e u10 ⟨⟨pP0, aP0x, nP0x, kP0x, rfl, LP0⟩, hb⟩
    have hk : Below wc.heap.size wc u10 := by (repeat (first | with_reducible exact Below.refl _ _ | with_reducible assumption | refine Below.alloc ?_ (by (try simp); try omega) _ | refine Below.setCell ?_ (by (try simp); try omega) _ | refine below_drewN ?_ _ | refine Below.drew ?_ | (with_reducible refine Below.trans ?_ (Below.mono (by assumption) (by (try simp); try omega)))))
    clear hb
    replace hB := hB.trans (hk.mono hB.size)
    clear hk
    go_wp2_with fail
    have hX : Below u10.heap.size u10 (u10.alloc (.cells #[.bool pP0, .slice aP0x nP0x kP0x] 24)) := by (repeat (first | with_reducible exact Below.refl _ _ | with_reducible assumption | refine Below.alloc ?_ (by (try simp); try omega) _ | refine Below.setCell ?_ (by (try simp); try omega) _ | refine below_drewN ?_ _ | refine Below.drew ?_ | (with_reducible refine Below.trans ?_ (Below.mono (by assumption) (by (try simp); try omega)))))
    have bP0 : Bx (u10.alloc (.cells #[.bool pP0, .slice aP0x nP0x kP0x] 24)) (u10.heap.size) (.bool pP0) (.slice aP0x nP0x kP0x) 24 := by exact (Bx.new u10 (.bool pP0) (.slice aP0x nP0x kP0x) 24)
    have gebP0 : w.heap.size ≤ u10.heap.size := by have := hB.size; omega
    replace LP0 := LP0.keep hX
    replace hB := hB.trans (hX.mono hB.size)
    clear hX
    generalize (u10.alloc (.cells #[.bool pP0, .slice aP0x nP0x kP0x] 24)) = v11 at *
    generalize u10.heap.size = gbP0 at *
    go_at_call 53
    refine (hB0.out _).mono ?_
    rintro e u12 ⟨⟨pQ0, aQ0x, nQ0x, kQ0x, rfl, LQ0⟩, hb⟩
    have hk : Below v11.heap.size v11 u12 := by (repeat (first | with_reducible exact Below.refl _ _ | with_reducible assumption | refine Below.alloc ?_ (by (try simp); try omega) _ | refine Below.setCell ?_ (by (try simp); try omega) _ | refine below_drewN ?_ _ | refine Below.drew ?_ | (with_reducible refine Below.trans ?_ (Below.mono (by assumption) (by (try simp); try omega)))))
    clear hb
    replace LP0 := LP0.keep hk
    replace bP0 := bP0.keep hk
    replace hB := hB.trans (hk.mono hB.size)
    clear hk
    have rbP00 : (u12.alloc (.cells #[.bool pQ0, .slice aQ0x nQ0x kQ0x] 24)).cell? ⟨gbP0, 0, none⟩ = some (.bool pP0) := (bP0.alloc _).c0
    have rbP01 : (u12.alloc (.cells #[.bool pQ0, .slice aQ0x nQ0x kQ0x] 24)).cell? ⟨gbP0, 1, none⟩ = some (.slice aP0x nP0x kP0x) := (bP0.alloc _).c1
    go_wp2_with fail
    clear rbP00 rbP01
    have hX : Below u12.heap.size u12 (u12.alloc (.cells #[.bool pQ0, .slice aQ0x nQ0x kQ0x] 24)) := by (repeat (first | with_reducible exact Below.refl _ _ | with_reducible assumption | refine Below.alloc ?_ (by (try simp); try omega) _ | refine Below.setCell ?_ (by (try simp); try omega) _ | refine below_drewN ?_ _ | refine Below.drew ?_ | (with_reducible refine Below.trans ?_ (Below.mono (by assumption) (by (try simp); try omega)))))
    have bQ0 : Bx (u12.alloc (.cells #[.bool pQ0, .slice aQ0x nQ0x kQ0x] 24)) (u12.heap.size) (.bool pQ0) (.slice aQ0x nQ0x kQ0x) 24 := by exact (Bx.new u12 (.bool pQ0) (.slice aQ0x nQ0x kQ0x) 24)
    have gebQ0 : w.heap.size ≤ u12.heap.size := by have := hB.size; omega
    have ltbP0bQ0 : gbP0 < u12.heap.size := by have := bP0.lt; omega
    replace LP0 := LP0.keep hX
    replace LQ0 := LQ0.keep hX
    replace bP0 := bP0.keep hX
    replace hB := hB.trans (hX.mono hB.size)
    clear hX
    generalize (u12.alloc (.cells #[.bool pQ0, .slice aQ0x nQ0x kQ0x] 24)) = v13 at *
    generalize u12.heap.size = gbQ0 at *
    go_at_call 35
    refine (alike_true _ _ z0 r0 _ LP0 LQ0 (by omega)).mono ?_
    rintro e u14 ⟨rfl, hb⟩
    have hk : Below v13.heap.size v13 u14 := by (repeat (first | with_reducible exact Below.refl _ _ | with_reducible assumption | refine Below.alloc ?_ (by (try simp); try omega) _ | refine Below.setCell ?_ (by (try simp); try omega) _ | refine below_drewN ?_ _ | refine Below.drew ?_ | (with_reducible refine Below.trans ?_ (Below.mono (by assumption) (by (try simp); try omega)))))
    clear hb
    replace LP0 := LP0.keep hk
    replace LQ0 := LQ0.keep hk
    replace bP0 := bP0.keep hk
    replace bQ0 := bQ0.keep hk
    replace hB := hB.trans (hk.mono hB.size)
    clear hk
    clear LP0 LQ0 bP0 bQ0
    go_wp2_with fail
    rw [rounds_succ]
    go_wp2_with fail
    go_at_call 52
    refine (hA1.out _).mono ?_
    rintro e u15 ⟨⟨pP1, aP1x, nP1x, kP1x, rfl, LP1⟩, hb⟩
    have hk : Below u14.heap.size u14 u15 := by (repeat (first | with_reducible exact Below.refl _ _ | with_reducible assumption | refine Below.alloc ?_ (by (try simp); try omega) _ | refine Below.setCell ?_ (by (try simp); try omega) _ | refine below_drewN ?_ _ | refine Below.drew ?_ | (with_reducible refine Below.trans ?_ (Below.mono (by assumption) (by (try simp); try omega)))))
    clear hb
    replace hB := hB.trans (hk.mono hB.size)
    clear hk
    go_wp2_with fail
    have hX : Below u15.heap.size u15 (u15.alloc (.cells #[.bool pP1, .slice aP1x nP1x kP1x] 24)) := by (repeat (first | with_reducible exact Below.refl _ _ | with_reducible assumption | refine Below.alloc ?_ (by (try simp); try omega) _ | refine Below.setCell ?_ (by (try simp); try omega) _ | refine below_drewN ?_ _ | refine Below.drew ?_ | (with_reducible refine Below.trans ?_ (Below.mono (by assumption) (by (try simp); try omega)))))
    have bP1 : Bx (u15.alloc (.cells #[.bool pP1, .slice aP1x nP1x kP1x] 24)) (u15.heap.size) (.bool pP1) (.slice aP1x nP1x kP1x) 24 := by exact (Bx.new u15 (.bool pP1) (.slice aP1x nP1x kP1x) 24)
    have gebP1 : w.heap.size ≤ u15.heap.size := by have := hB.size; omega
    replace LP1 := LP1.keep hX
    replace hB := hB.trans (hX.mono hB.size)
    clear hX
    generalize (u15.alloc (.cells #[.bool pP1, .slice aP1x nP1x kP1x] 24)) = v16 at *
    generalize u15.heap.size = gbP1 at *
    go_at_call 53
    refine (hB1.out _).mono ?_
    rintro e u17 ⟨⟨pQ1, aQ1x, nQ1x, kQ1x, rfl, LQ1⟩, hb⟩
    have hk : Below v16.heap.size v16 u17 := by (repeat (first | with_reducible exact Below.refl _ _ | with_reducible assumption | refine Below.alloc ?_ (by (try simp); try omega) _ | refine Below.setCell ?_ (by (try simp); try omega) _ | refine below_drewN ?_ _ | refine Below.drew ?_ | (with_reducible refine Below.trans ?_ (Below.mono (by assumption) (by (try simp); try omega)))))
    clear hb
    replace LP1 := LP1.keep hk
    replace bP1 := bP1.keep hk
    replace hB := hB.trans (hk.mono hB.size)
    clear hk
    have rbP10 : (u17.alloc (.cells #[.bool pQ1, .slice aQ1x nQ1x kQ1x] 24)).cell? ⟨gbP1, 0, none⟩ = some (.bool pP1) := (bP1.alloc _).c0
    have rbP11 : (u17.alloc (.cells #[.bool pQ1, .slice aQ1x nQ1x kQ1x] 24)).cell? ⟨gbP1, 1, none⟩ = some (.slice aP1x nP1x kP1x) := (bP1.alloc _).c1
    go_wp2_with fail
    clear rbP10 rbP11
    have hX : Below u17.heap.size u17 (u17.alloc (.cells #[.bool pQ1, .slice aQ1x nQ1x kQ1x] 24)) := by (repeat (first | with_reducible exact Below.refl _ _ | with_reducible assumption | refine Below.alloc ?_ (by (try simp); try omega) _ | refine Below.setCell ?_ (by (try simp); try omega) _ | refine below_drewN ?_ _ | refine Below.drew ?_ | (with_reducible refine Below.trans ?_ (Below.mono (by assumption) (by (try simp); try omega)))))
    have bQ1 : Bx (u17.alloc (.cells #[.bool pQ1, .slice aQ1x nQ1x kQ1x] 24)) (u17.heap.size) (.bool pQ1) (.slice aQ1x nQ1x kQ1x) 24 := by exact (Bx.new u17 (.bool pQ1) (.slice aQ1x nQ1x kQ1x) 24)
    have gebQ1 : w.heap.size ≤ u17.heap.size := by have := hB.size; omega
    have ltbP1bQ1 : gbP1 < u17.heap.size := by have := bP1.lt; omega
    replace LP1 := LP1.keep hX
    replace LQ1 := LQ1.keep hX
    replace bP1 := bP1.keep hX
    replace hB := hB.trans (hX.mono hB.size)
    clear hX
    generalize (u17.alloc (.cells #[.bool pQ1, .slice aQ1x nQ1x kQ1x] 24)) = v18 at *
    generalize u17.heap.size = gbQ1 at *
    go_at_call 35
    refine (alike_true _ _ z1 r1 _ LP1 LQ1 (by omega)).mono ?_
    rintro e u19 ⟨rfl, hb⟩
    have hk : Below v18.heap.size v18 u19 := by (repeat (first | with_reducible exact Below.refl _ _ | with_reducible assumption | refine Below.alloc ?_ (by (try simp); try omega) _ | refine Below.setCell ?_ (by (try simp); try omega) _ | refine below_drewN ?_ _ | refine Below.drew ?_ | (with_reducible refine Below.trans ?_ (Below.mono (by assumption) (by (try simp); try omega)))))
    clear hb
    replace LP1 := LP1.keep hk
    replace LQ1 := LQ1.keep hk
    replace bP1 := bP1.keep hk
    replace bQ1 := bQ1.keep hk
    replace hB := hB.trans (hk.mono hB.size)
    clear hk
    clear LP1 LQ1 bP1 bQ1
    go_wp2_with fail
    rw [rounds_succ]
    go_wp2_with fail
    go_at_call 52
    refine (hA2.out _).mono ?_
    rintro e u20 ⟨⟨pP2, aP2x, nP2x, kP2x, rfl, LP2⟩, hb⟩
    have hk : Below u19.heap.size u19 u20 := by (repeat (first | with_reducible exact Below.refl _ _ | with_reducible assumption | refine Below.alloc ?_ (by (try simp); try omega) _ | refine Below.setCell ?_ (by (try simp); try omega) _ | refine below_drewN ?_ _ | refine Below.drew ?_ | (with_reducible refine Below.trans ?_ (Below.mono (by assumption) (by (try simp); try omega)))))
    clear hb
    replace hB := hB.trans (hk.mono hB.size)
    clear hk
    go_wp2_with fail
    have hX : Below u20.heap.size u20 (u20.alloc (.cells #[.bool pP2, .slice aP2x nP2x kP2x] 24)) := by (repeat (first | with_reducible exact Below.refl _ _ | with_reducible assumption | refine Below.alloc ?_ (by (try simp); try omega) _ | refine Below.setCell ?_ (by (try simp); try omega) _ | refine below_drewN ?_ _ | refine Below.drew ?_ | (with_reducible refine Below.trans ?_ (Below.mono (by assumption) (by (try simp); try omega)))))
    have bP2 : Bx (u20.alloc (.cells #[.bool pP2, .slice aP2x nP2x kP2x] 24)) (u20.heap.size) (.bool pP2) (.slice aP2x nP2x kP2x) 24 := by exact (Bx.new u20 (.bool pP2) (.slice aP2x nP2x kP2x) 24)
    have gebP2 : w.heap.size ≤ u20.heap.size := by have := hB.size; omega
    replace LP2 := LP2.keep hX
    replace hB := hB.trans (hX.mono hB.size)
    clear hX
    generalize (u20.alloc (.cells #[.bool pP2, .slice aP2x nP2x kP2x] 24)) = v21 at *
    generalize u20.heap.size = gbP2 at *
    go_at_call 53
    refine (hB2.out _).mono ?_
    rintro e u22 ⟨⟨pQ2, aQ2x, nQ2x, kQ2x, rfl, LQ2⟩, hb⟩
    have hk : Below v21.heap.size v21 u22 := by (repeat (first | with_reducible exact Below.refl _ _ | with_reducible assumption | refine Below.alloc ?_ (by (try simp); try omega) _ | refine Below.setCell ?_ (by (try simp); try omega) _ | refine below_drewN ?_ _ | refine Below.drew ?_ | (with_reducible refine Below.trans ?_ (Below.mono (by assumption) (by (try simp); try omega)))))
    clear hb
    replace LP2 := LP2.keep hk
    replace bP2 := bP2.keep hk
    replace hB := hB.trans (hk.mono hB.size)
    clear hk
    have rbP20 : (u22.alloc (.cells #[.bool pQ2, .slice aQ2x nQ2x kQ2x] 24)).cell? ⟨gbP2, 0, none⟩ = some (.bool pP2) := (bP2.alloc _).c0
    have rbP21 : (u22.alloc (.cells #[.bool pQ2, .slice aQ2x nQ2x kQ2x] 24)).cell? ⟨gbP2, 1, none⟩ = some (.slice aP2x nP2x kP2x) := (bP2.alloc _).c1
    go_wp2_with fail
    clear rbP20 rbP21
    have hX : Below u22.heap.size u22 (u22.alloc (.cells #[.bool pQ2, .slice aQ2x nQ2x kQ2x] 24)) := by (repeat (first | with_reducible exact Below.refl _ _ | with_reducible assumption | refine Below.alloc ?_ (by (try simp); try omega) _ | refine Below.setCell ?_ (by (try simp); try omega) _ | refine below_drewN ?_ _ | refine Below.drew ?_ | (with_reducible refine Below.trans ?_ (Below.mono (by assumption) (by (try simp); try omega)))))
    have bQ2 : Bx (u22.alloc (.cells #[.bool pQ2, .slice aQ2x nQ2x kQ2x] 24)) (u22.heap.size) (.bool pQ2) (.slice aQ2x nQ2x kQ2x) 24 := by exact (Bx.new u22 (.bool pQ2) (.slice aQ2x nQ2x kQ2x) 24)
    have gebQ2 : w.heap.size ≤ u22.heap.size := by have := hB.size; omega
    have ltbP2bQ2 : gbP2 < u22.heap.size := by have := bP2.lt; omega
    replace LP2 := LP2.keep hX
    replace LQ2 := LQ2.keep hX
    replace bP2 := bP2.keep hX
    replace hB := hB.trans (hX.mono hB.size)
    clear hX
    generalize (u22.alloc (.cells #[.bool pQ2, .slice aQ2x nQ2x kQ2x] 24)) = v23 at *
    generalize u22.heap.size = gbQ2 at *
    go_at_call 35
    refine (alike_true _ _ z2 r2 _ LP2 LQ2 (by omega)).mono ?_
    rintro e u24 ⟨rfl, hb⟩
    have hk : Below v23.heap.size v23 u24 := by (repeat (first | with_reducible exact Below.refl _ _ | with_reducible assumption | refine Below.alloc ?_ (by (try simp); try omega) _ | refine Below.setCell ?_ (by (try simp); try omega) _ | refine below_drewN ?_ _ | refine Below.drew ?_ | (with_reducible refine Below.trans ?_ (Below.mono (by assumption) (by (try simp); try omega)))))
    clear hb
    replace LP2 := LP2.keep hk
    replace LQ2 := LQ2.keep hk
    replace bP2 := bP2.keep hk
    replace bQ2 := bQ2.keep hk
    replace hB := hB.trans (hk.mono hB.size)
    clear hk
    clear LP2 LQ2 bP2 bQ2
    go_wp2_with fail
    rw [rounds_succ]
    go_wp2_with fail
    go_at_call 52
    refine (hA3.out _).mono ?_
    rintro e u25 ⟨⟨pP3, aP3x, nP3x, kP3x, rfl, LP3⟩, hb⟩
    have hk : Below u24.heap.size u24 u25 := by (repeat (first | with_reducible exact Below.refl _ _ | with_reducible assumption | refine Below.alloc ?_ (by (try simp); try omega) _ | refine Below.setCell ?_ (by (try simp); try omega) _ | refine below_drewN ?_ _ | refine Below.drew ?_ | (with_reducible refine Below.trans ?_ (Below.mono (by assumption) (by (try simp); try omega)))))
    clear hb
    replace hB := hB.trans (hk.mono hB.size)
    clear hk
    go_wp2_with fail
    have hX : Below u25.heap.size u25 (u25.alloc (.cells #[.bool pP3, .slice aP3x nP3x kP3x] 24)) := by (repeat (first | with_reducible exact Below.refl _ _ | with_reducible assumption | refine Below.alloc ?_ (by (try simp); try omega) _ | refine Below.setCell ?_ (by (try simp); try omega) _ | refine below_drewN ?_ _ | refine Below.drew ?_ | (with_reducible refine Below.trans ?_ (Below.mono (by assumption) (by (try simp); try omega)))))
    have bP3 : Bx (u25.alloc (.cells #[.bool pP3, .slice aP3x nP3x kP3x] 24)) (u25.heap.size) (.bool pP3) (.slice aP3x nP3x kP3x) 24 := by exact (Bx.new u25 (.bool pP3) (.slice aP3x nP3x kP3x) 24)
    have gebP3 : w.heap.size ≤ u25.heap.size := by have := hB.size; omega
    replace LP3 := LP3.keep hX
    replace hB := hB.trans (hX.mono hB.size)
    clear hX
    generalize (u25.alloc (.cells #[.bool pP3, .slice aP3x nP3x kP3x] 24)) = v26 at *
    generalize u25.heap.size = gbP3 at *
    go_at_call 53
    refine (hB3.out _).mono ?_
    rintro e u27 ⟨⟨pQ3, aQ3x, nQ3x, kQ3x, rfl, LQ3⟩, hb⟩
    have hk : Below v26.heap.size v26 u27 := by (repeat (first | with_reducible exact Below.refl _ _ | with_reducible assumption | refine Below.alloc ?_ (by (try simp); try omega) _ | refine Below.setCell ?_ (by (try simp); try omega) _ | refine below_drewN ?_ _ | refine Below.drew ?_ | (with_reducible refine Below.trans ?_ (Below.mono (by assumption) (by (try simp); try omega)))))
    clear hb
    replace LP3 := LP3.keep hk
    replace bP3 := bP3.keep hk
    replace hB := hB.trans (hk.mono hB.size)
    clear hk
    have rbP30 : (u27.alloc (.cells #[.bool pQ3, .slice aQ3x nQ3x kQ3x] 24)).cell? ⟨gbP3, 0, none⟩ = some (.bool pP3) := (bP3.alloc _).c0
    have rbP31 : (u27.alloc (.cells #[.bool pQ3, .slice aQ3x nQ3x kQ3x] 24)).cell? ⟨gbP3, 1, none⟩ = some (.slice aP3x nP3x kP3x) := (bP3.alloc _).c1
    go_wp2_with fail
    clear rbP30 rbP31
    have hX : Below u27.heap.size u27 (u27.alloc (.cells #[.bool pQ3, .slice aQ3x nQ3x kQ3x] 24)) := by (repeat (first | with_reducible exact Below.refl _ _ | with_reducible assumption | refine Below.alloc ?_ (by (try simp); try omega) _ | refine Below.setCell ?_ (by (try simp); try omega) _ | refine below_drewN ?_ _ | refine Below.drew ?_ | (with_reducible refine Below.trans ?_ (Below.mono (by assumption) (by (try simp); try omega)))))
    have bQ3 : Bx (u27.alloc (.cells #[.bool pQ3, .slice aQ3x nQ3x kQ3x] 24)) (u27.heap.size) (.bool pQ3) (.slice aQ3x nQ3x kQ3x) 24 := by exact (Bx.new u27 (.bool pQ3) (.slice aQ3x nQ3x kQ3x) 24)
    have gebQ3 : w.heap.size ≤ u27.heap.size := by have := hB.size; omega
    have ltbP3bQ3 : gbP3 < u27.heap.size := by have := bP3.lt; omega
    replace LP3 := LP3.keep hX
    replace LQ3 := LQ3.keep hX
    replace bP3 := bP3.keep hX
    replace hB := hB.trans (hX.mono hB.size)
    clear hX
    generalize (u27.alloc (.cells #[.bool pQ3, .slice aQ3x nQ3x kQ3x] 24)) = v28 at *
    generalize u27.heap.size = gbQ3 at *
    go_at_call 35
    refine (alike_true _ _ z3 r3 _ LP3 LQ3 (by omega)).mono ?_
    rintro e u29 ⟨rfl, hb⟩
    have hk : Below v28.heap.size v28 u29 := by (repeat (first | with_reducible exact Below.refl _ _ | with_reducible assumption | refine Below.alloc ?_ (by (try simp); try omega) _ | refine Below.setCell ?_ (by (try simp); try omega) _ | refine below_drewN ?_ _ | refine Below.drew ?_ | (with_reducible refine Below.trans ?_ (Below.mono (by assumption) (by (try simp); try omega)))))
    clear hb
    replace LP3 := LP3.keep hk
    replace LQ3 := LQ3.keep hk
    replace bP3 := bP3.keep hk
    replace bQ3 := bQ3.keep hk
    replace hB := hB.trans (hk.mono hB.size)
    clear hk
    clear LP3 LQ3 bP3 bQ3
    go_wp2_with fail
    rw [rounds_succ]
    go_wp2
    go_ret
    exact ⟨rfl, hB⟩
end Go.Proofs.YtoppdbgodceaiaaDoor
