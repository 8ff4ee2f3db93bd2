/-
  Package dec: powers of ten; the digits with which a text begins.
-/
import Derived.WalkKit
import Derived.Test.YtpjkdgdgjlldfaaGreatDoorProg
import Derived.Deep.Draws
import Derived.Lib.Hide
import Derived.Laws.RangeAny
import Derived.WalkMore
import Derived.Test.YtpjkdgdgjlldfaaGreatDoorDcM
namespace Go.Proofs.YtpjkdgdgjlldfaaGreatDoor
open Go.RowKit

set_option maxRecDepth 100000 in
set_option maxHeartbeats 1000000 in
theorem power_any (d : Nat) (w : World) (hd : d ≤ 18) :
    Calls Tryz.prog 39 #[.int .i64 (d : Int)] w fun e w' => e = .returned (.int .i64 ((10 ^ d : Nat) : Int)) ∧ w = w' := by
  go_enter Tryz.func39, Tryz.ntmps39
  go_wp2
  go_loop [3, 5] (fun vp vi => ∃ (k : Nat) (P : Int), k ≤ d ∧ vi = .int .i64 k ∧ vp = .int .i64 P ∧ Hid (P = ((10 ^ k : Nat) : Int)) ∧ 0 ≤ P ∧ P ≤ 1000000000000000000) (fun _ vi => d - (intOf vi).toNat)
  case atStart => exact ⟨0, 1, by omega, rfl, rfl, Lib.hid rfl, by omega, by omega⟩
  case round =>
    obtain ⟨k, P, hk, rfl, rfl, hP, p0, p1⟩ := hrel
    by_cases h : k < d
    · have hb : P ≤ 100000000000000000 := by
        rw [hP.out]
        have : (10 : Nat) ^ k ≤ 10 ^ 17 := Nat.pow_le_pow_right (by omega) (by omega)
        omega
      have hN : P * 10 = ((10 ^ (k + 1) : Nat) : Int) := by rw [hP.out, Nat.pow_succ]; push_cast; rfl
      replace hN := Lib.hid hN
      go_wp2
      go_round
      case rel => exact ⟨k + 1, P * 10, by omega, by go_num, by go_num, hN, by omega, by omega⟩
      case measure => simp [intOf]; omega
    · have hkd : k = d := by omega
      go_wp2
      go_ret
      subst hkd
      exact ⟨by rw [hP.out]; push_cast; rfl, rfl⟩

/-! ### the digits with which a text begins -/
def byt (s : ByteArray) (i : Nat) : UInt8 := s.data.toList.getD i 0
theorem lead_at : ∀ (l : List UInt8) (k : Nat), k ≤ l.length → (∀ i, i < k → isD (l.getD i 0) = true) → (k < l.length → isD (l.getD k 0) = false) → (l.takeWhile isD).length = k
  | [], k, h, _, _ => by simp at h; subst h; rfl
  | a :: l, 0, _, _, h => by
    have := h (by simp)
    simp at this; simp [this]
  | a :: l, k + 1, h0, h1, h2 => by
    have ha := h1 0 (by omega)
    simp at ha
    have := lead_at l k (by simpa using h0) (fun i hi => by have := h1 (i + 1) (by omega); simpa using this) (fun hk => by have := h2 (by simp; omega); simpa using this)
    simp [ha, this]
theorem get_byt (s : ByteArray) (i : Nat) (h : i < s.size) : s[i]'h = byt s i := by
  unfold byt
  rw [List.getD_eq_getElem?_getD, List.getElem?_eq_getElem (by simpa using h)]
  rw [Option.getD_some, Array.getElem_toList]
  rfl
set_option maxRecDepth 100000 in
set_option maxHeartbeats 1000000 in
theorem leading_any (s : ByteArray) (w : World) (hs : s.size ≤ 9223372036854775807) :
    Calls Tryz.prog 65 #[.string s] w fun e w' => e = .returned (.int .i64 ((s.data.toList.takeWhile isD).length : Int)) ∧ Below w.heap.size w w' := by
  have hlen : s.data.toList.length = s.size := by simp
  go_enter Tryz.func65, Tryz.ntmps65
  go_wp2
  go_step3
  go_wp2
  go_step3
  go_wp2
  go_loopw [3] (fun n w' => ∃ (pos : Nat), w' = w.iter s pos ∧ n = .int .i64 pos ∧ pos ≤ s.size ∧ Hid (∀ i, i < pos → isD (byt s i) = true)) (fun _ w' => s.size - w'.iterPos w.heap.size)
  case atStart => exact ⟨0, rfl, rfl, by omega, Lib.hid (fun i hi => by omega)⟩
  case round =>
    obtain ⟨pos, rfl, rfl, hps, hall⟩ := hrel
    by_cases hp : pos < s.size
    · have hnx : ∀ ty, (Instr.next (.pointer (some ⟨w.heap.size, 0, none⟩)) true ty).run Tryz.prog (w.iter s pos) = _ := fun ty => run_next_any w s pos ty hp
      by_cases ha : (s[pos]'hp).toNat < 128
      · rw [decode_ascii s pos hp ha] at hnx
        simp only [get_byt s pos hp] at hnx ha
        have hb : Hid (isD (byt s pos) = true ↔ 48 ≤ (byt s pos).toNat ∧ (byt s pos).toNat ≤ 57) := Lib.hid (by unfold isD; simp)
        obtain ⟨r, hr⟩ : ∃ r, (byt s pos).toNat = r := ⟨_, rfl⟩
        rw [hr] at hnx hb ha
        clear hr
        by_cases hd : 48 ≤ r ∧ r ≤ 57
        · have h48 : (48 : Int) ≤ (r : Int) := by omega
          have h57 : (r : Int) ≤ 57 := by omega
          have hdd := Lib.hid (hb.out.2 hd)
          clear hb ha hd
          go_wp2
          go_roundw
          case rel =>
            refine ⟨pos + 1, rfl, by go_num, by omega, Lib.hid fun i hi => ?_⟩
            rcases Nat.lt_or_ge i pos with h | h
            · exact hall.out i h
            · rw [show i = pos by omega]; exact hdd.out
          case measure => simp; omega
        · have hdd : Hid (isD (byt s pos) = false) := Lib.hid (by
            cases e : isD (byt s pos)
            · rfl
            · exact absurd (hb.out.1 e) hd)
          have hr : Hid (((s.data.toList.takeWhile isD).length : Int) = pos) := Lib.hid (by rw [lead_at _ pos (by omega) hall.out (fun _ => hdd.out)])
          clear hb ha hdd hall hlen
          by_cases h48 : (48 : Int) ≤ (r : Int)
          · have h57 : ¬ (r : Int) ≤ 57 := by omega
            clear hd
            go_wp2
            go_ret
            exact ⟨by rw [hr.out]; rfl, (Below.refl _ _).alloc (Nat.le_refl _) _⟩
          · clear hd
            go_wp2
            go_ret
            exact ⟨by rw [hr.out]; rfl, (Below.refl _ _).alloc (Nat.le_refl _) _⟩
      · have hh := (decode_high s pos hp (by omega)).1
        have hdd : Hid (isD (byt s pos) = false) := Lib.hid (by
          rw [get_byt s pos hp] at ha
          unfold isD; simp; omega)
        have hr : Hid (((s.data.toList.takeWhile isD).length : Int) = pos) := Lib.hid (by rw [lead_at _ pos (by omega) hall.out (fun _ => hdd.out)])
        clear hdd hall hlen ha
        generalize Utf8.decode s pos = q at *
        obtain ⟨q1, q2⟩ := q
        have h48 : (48 : Int) ≤ (q1 : Int) := by dsimp only at hh; omega
        have h57 : ¬ (q1 : Int) ≤ 57 := by dsimp only at hh; omega
        clear hh
        go_wp2
        go_ret
        exact ⟨by rw [hr.out]; rfl, (Below.refl _ _).alloc (Nat.le_refl _) _⟩
    · have hnx : ∀ ty, (Instr.next (.pointer (some ⟨w.heap.size, 0, none⟩)) true ty).run Tryz.prog (w.iter s pos) = _ := fun ty => run_next_end w s pos ty hp
      have hr : Hid (((s.data.toList.takeWhile isD).length : Int) = pos) := Lib.hid (by rw [lead_at _ pos (by omega) hall.out (fun h => by omega)])
      clear hall hlen
      go_wp2
      rw [Exit.noGoto_ret]
      go_ret
      exact ⟨by rw [hr.out]; rfl, (Below.refl _ _).alloc (Nat.le_refl _) _⟩
end Go.Proofs.YtpjkdgdgjlldfaaGreatDoor
