/-
  The reference: form.
-/
import Derived.Test.YtoppdbgodceaiaaDoorLrV
namespace Go.Proofs.YtoppdbgodceaiaaDoor
open Go.RowKit

set_option maxRecDepth 100000 in
set_option maxHeartbeats 1000000 in
theorem form_zero (w : World) :
    Calls Tryd.prog 89 #[.string ⟨⟨[48]⟩⟩] w fun e w' => e = .returned (.bool true) ∧ w = w' := by
  have hq : ((⟨⟨[48]⟩⟩ : ByteArray).toList == [48]) = true := by rw [bytes_list]; rfl
  generalize (⟨⟨[48]⟩⟩ : ByteArray) = S at *
  go_enter Tryd.func89, Tryd.ntmps89
  go_wp2
  go_ret
  exact ⟨rfl, rfl⟩
set_option maxRecDepth 100000 in
set_option maxHeartbeats 1000000 in
theorem form_neg (l : List UInt8) (w : World) (hl : l.length ≤ 1000000) :
    Calls Tryd.prog 89 #[.string ⟨⟨45 :: l⟩⟩] w fun e w' => e = .returned (.bool (isPos l)) ∧ w = w' := by
  have hsz : (⟨⟨l⟩⟩ : ByteArray).size = l.length := rfl
  have hno : ∀ k, k < l.length → ((l.getD k 0).toNat < 48 ∨ 57 < (l.getD k 0).toNat) → Hid (isPos l = false) := fun k hk h => Lib.hid (isPos_no hk h)
  have hyes : (∀ j, j < l.length → 48 ≤ (l.getD j 0).toNat ∧ (l.getD j 0).toNat ≤ 57) → Hid (isPos l = (decide (0 < l.length) && (l.getD 0 0).toNat != 48)) := fun h => Lib.hid (isPos_eq h)
  have hsS : (⟨⟨45 :: l⟩⟩ : ByteArray).size = l.length + 1 := rfl
  have hb0 : ∀ h : 0 < (⟨⟨45 :: l⟩⟩ : ByteArray).size, ((⟨⟨45 :: l⟩⟩ : ByteArray)[0]'h).toNat = 45 := fun h => rfl
  have hex : (⟨⟨45 :: l⟩⟩ : ByteArray).extract 1 (l.length + 1) = ⟨⟨l⟩⟩ := by rw [extract_bytes]; simp
  have hq : ((⟨⟨45 :: l⟩⟩ : ByteArray).toList == [48]) = false := by rw [bytes_list]; rfl
  generalize (⟨⟨45 :: l⟩⟩ : ByteArray) = S at *
  go_enter Tryd.func89, Tryd.ntmps89
  go_wp2
  go_loopw [3] (fun i wr => ∃ (k : Nat), i = .int .i64 k ∧ k ≤ l.length ∧ (∀ j, j < k → 48 ≤ (l.getD j 0).toNat ∧ (l.getD j 0).toNat ≤ 57) ∧ w = wr)
    (fun i _ => l.length - (intOf i).toNat)
  case atStart => exact ⟨0, rfl, Nat.zero_le _, fun j hj => by omega, rfl⟩
  case round =>
    obtain ⟨k, rfl, hk, hj, rfl⟩ := hrel
    by_cases hk' : k < l.length
    · have hb : ∀ h : k < (⟨⟨l⟩⟩ : ByteArray).size, ((⟨⟨l⟩⟩ : ByteArray)[k]'h).toNat = (l.getD k 0).toNat := fun h => by rw [byte_at]
      have h1 := hno k hk'
      obtain ⟨c, hc⟩ : ∃ c, (l.getD k 0).toNat = c := ⟨_, rfl⟩
      have hb' : ∀ h : k < (⟨⟨l⟩⟩ : ByteArray).size, ((⟨⟨l⟩⟩ : ByteArray)[k]'h).toNat = c := fun h => (hb h).trans hc
      rw [hc] at h1
      replace hc := Lib.hid hc
      clear hno hb
      by_cases c0 : c < 48 ∨ 57 < c
      · have Ho := h1 c0
        clear h1
        rcases c0 with c0 | c0
        · go_wp2
          go_ret
          exact ⟨by rw [Ho.out]; rfl, rfl⟩
        · have c1 : ¬ c < 48 := by omega
          go_wp2
          go_ret
          exact ⟨by rw [Ho.out]; rfl, rfl⟩
      · clear h1
        have c1 : ¬ c < 48 := by omega
        have c2 : ¬ 57 < c := by omega
        have hj2 : ∀ j, j < k + 1 → 48 ≤ (l.getD j 0).toNat ∧ (l.getD j 0).toNat ≤ 57 := fun j hj' => by
          rcases Nat.lt_or_ge j k with h | h
          · exact hj j h
          · rw [show j = k by omega, hc.out]; omega
        clear hyes hj
        go_wp2
        go_roundw
        case rel => exact ⟨k + 1, by simp, by omega, hj2, trivial⟩
        case measure => simp [intOf]; omega
    · have hkl : k = l.length := by omega
      subst hkl
      have Ho := hyes hj
      clear hno hyes hj
      by_cases h0 : l.length = 0
      · have : l = [] := List.length_eq_zero_iff.1 h0
        subst this
        go_wp2
        go_ret
        exact ⟨by rw [Ho.out]; rfl, rfl⟩
      · have hb : ∀ h : 0 < (⟨⟨l⟩⟩ : ByteArray).size, ((⟨⟨l⟩⟩ : ByteArray)[0]'h).toNat = (l.getD 0 0).toNat := fun h => by rw [byte_at]
        obtain ⟨c, hc⟩ : ∃ c, (l.getD 0 0).toNat = c := ⟨_, rfl⟩
        have hb' : ∀ h : 0 < (⟨⟨l⟩⟩ : ByteArray).size, ((⟨⟨l⟩⟩ : ByteArray)[0]'h).toNat = c := fun h => (hb h).trans hc
        rw [hc, show decide (0 < l.length) = true from decide_eq_true (by omega), Bool.true_and] at Ho
        clear hb hc
        have hl0 : 0 < l.length := by omega
        go_wp2
        go_ret
        exact ⟨by rw [Ho.out, ← bne48]; rfl, rfl⟩
set_option maxRecDepth 100000 in
set_option maxHeartbeats 1000000 in
theorem form_pos (c0 : UInt8) (t : List UInt8) (w : World) (hc : c0.toNat ≠ 45) (h48 : c0 :: t ≠ [48]) (hl : (c0 :: t).length ≤ 1000000) :
    Calls Tryd.prog 89 #[.string ⟨⟨c0 :: t⟩⟩] w fun e w' => e = .returned (.bool (isPos (c0 :: t))) ∧ w = w' := by
  have hb0 : ∀ h : 0 < (⟨⟨c0 :: t⟩⟩ : ByteArray).size, ((⟨⟨c0 :: t⟩⟩ : ByteArray)[0]'h).toNat = c0.toNat := fun h => rfl
  have hc45 : ((c0.toNat : Int) == 45) = false := by simp; omega
  have hq : ((⟨⟨c0 :: t⟩⟩ : ByteArray).toList == [48]) = false := by rw [bytes_list]; simpa using h48
  have hq2 : ((c0 :: t) == [48]) = false := by simpa using h48
  have hT0 : 0 < (c0 :: t).length := by simp
  clear h48
  generalize c0.toNat = cn at *
  generalize c0 :: t = l at *
  have hsz : (⟨⟨l⟩⟩ : ByteArray).size = l.length := rfl
  have hno : ∀ k, k < l.length → ((l.getD k 0).toNat < 48 ∨ 57 < (l.getD k 0).toNat) → Hid (isPos l = false) := fun k hk h => Lib.hid (isPos_no hk h)
  have hyes : (∀ j, j < l.length → 48 ≤ (l.getD j 0).toNat ∧ (l.getD j 0).toNat ≤ 57) → Hid (isPos l = (decide (0 < l.length) && (l.getD 0 0).toNat != 48)) := fun h => Lib.hid (isPos_eq h)
  go_enter Tryd.func89, Tryd.ntmps89
  go_wp2
  go_loopw [3] (fun i wr => ∃ (k : Nat), i = .int .i64 k ∧ k ≤ l.length ∧ (∀ j, j < k → 48 ≤ (l.getD j 0).toNat ∧ (l.getD j 0).toNat ≤ 57) ∧ w = wr)
    (fun i _ => l.length - (intOf i).toNat)
  case atStart => exact ⟨0, rfl, Nat.zero_le _, fun j hj => by omega, rfl⟩
  case round =>
    obtain ⟨k, rfl, hk, hj, rfl⟩ := hrel
    by_cases hk' : k < l.length
    · have hb : ∀ h : k < (⟨⟨l⟩⟩ : ByteArray).size, ((⟨⟨l⟩⟩ : ByteArray)[k]'h).toNat = (l.getD k 0).toNat := fun h => by rw [byte_at]
      have h1 := hno k hk'
      obtain ⟨c, hc⟩ : ∃ c, (l.getD k 0).toNat = c := ⟨_, rfl⟩
      have hb' : ∀ h : k < (⟨⟨l⟩⟩ : ByteArray).size, ((⟨⟨l⟩⟩ : ByteArray)[k]'h).toNat = c := fun h => (hb h).trans hc
      rw [hc] at h1
      replace hc := Lib.hid hc
      clear hno hb
      by_cases c0 : c < 48 ∨ 57 < c
      · have Ho := h1 c0
        clear h1
        rcases c0 with c0 | c0
        · go_wp2
          go_ret
          exact ⟨by rw [Ho.out]; rfl, rfl⟩
        · have c1 : ¬ c < 48 := by omega
          go_wp2
          go_ret
          exact ⟨by rw [Ho.out]; rfl, rfl⟩
      · clear h1
        have c1 : ¬ c < 48 := by omega
        have c2 : ¬ 57 < c := by omega
        have hj2 : ∀ j, j < k + 1 → 48 ≤ (l.getD j 0).toNat ∧ (l.getD j 0).toNat ≤ 57 := fun j hj' => by
          rcases Nat.lt_or_ge j k with h | h
          · exact hj j h
          · rw [show j = k by omega, hc.out]; omega
        clear hyes hj
        go_wp2
        go_roundw
        case rel => exact ⟨k + 1, by simp, by omega, hj2, trivial⟩
        case measure => simp [intOf]; omega
    · have hkl : k = l.length := by omega
      subst hkl
      have Ho := hyes hj
      clear hno hyes hj hb0
      by_cases h0 : l.length = 0
      · have : l = [] := List.length_eq_zero_iff.1 h0
        omega
      · have hb : ∀ h : 0 < (⟨⟨l⟩⟩ : ByteArray).size, ((⟨⟨l⟩⟩ : ByteArray)[0]'h).toNat = (l.getD 0 0).toNat := fun h => by rw [byte_at]
        obtain ⟨c, hc⟩ : ∃ c, (l.getD 0 0).toNat = c := ⟨_, rfl⟩
        have hb' : ∀ h : 0 < (⟨⟨l⟩⟩ : ByteArray).size, ((⟨⟨l⟩⟩ : ByteArray)[0]'h).toNat = c := fun h => (hb h).trans hc
        rw [hc, show decide (0 < l.length) = true from decide_eq_true (by omega), Bool.true_and] at Ho
        clear hb hc
        have hl0 : 0 < l.length := by omega
        go_wp2
        go_ret
        exact ⟨by rw [Ho.out, ← bne48]; rfl, rfl⟩
set_option maxRecDepth 100000 in
set_option maxHeartbeats 1000000 in
theorem form_empty (w : World) :
    Calls Tryd.prog 89 #[.string ⟨⟨[]⟩⟩] w fun e w' => e = .returned (.bool false) ∧ w = w' := by
  have hsz : (⟨⟨[]⟩⟩ : ByteArray).size = 0 := rfl
  have hq : ((⟨⟨[]⟩⟩ : ByteArray).toList == [48]) = false := by rw [bytes_list]; rfl
  generalize (⟨⟨[]⟩⟩ : ByteArray) = S at *
  go_enter Tryd.func89, Tryd.ntmps89
  go_wp2
  refine wp_loop_rounds 1 ?_
  rw [rounds_succ]
  go_wp2
  go_ret
  exact ⟨rfl, rfl⟩
end Go.Proofs.YtoppdbgodceaiaaDoor
