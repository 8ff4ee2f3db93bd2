/-
  Walks of package long: number, isPositive.
-/
import Derived.Test.YthhbnhdejbpjiaaDoorLgY
import Derived.Test.YthhbnhdejbpjiaaDoorLgT
namespace Go.Proofs.YthhbnhdejbpjiaaDoor
open Go.RowKit

theorem dn_take_succ (l : List UInt8) (k : Nat) (hk : k < l.length) : dn (l.take (k + 1)) = 10 * dn (l.take k) + (((l.getD k 0).toNat : Int) - 48) := by
  rw [List.take_add_one, List.getElem?_eq_getElem hk]
  show dn (l.take k ++ [l[k]]) = _
  rw [dn_snoc]; simp [List.getD_eq_getElem?_getD, List.getElem?_eq_getElem hk]
theorem pow10_le {m n : Nat} (h : m ≤ n) : (10 : Int) ^ m ≤ 10 ^ n := by
  obtain ⟨k, rfl⟩ : ∃ k, n = m + k := ⟨n - m, by omega⟩
  rw [Int.pow_add]
  have h1 : (0 : Int) < 10 ^ k := Int.pow_pos (by omega)
  have h2 : (0 : Int) < 10 ^ m := Int.pow_pos (by omega)
  have := Int.mul_le_mul_of_nonneg_left (show (1 : Int) ≤ 10 ^ k by omega) (show (0 : Int) ≤ 10 ^ m by omega)
  omega
theorem byte_at (l : List UInt8) (k : Nat) (h : k < (⟨⟨l⟩⟩ : ByteArray).size) : (⟨⟨l⟩⟩ : ByteArray)[k]'h = l.getD k 0 := by
  have hl : k < l.length := h
  simp only [List.getD, List.getElem?_eq_getElem hl, Option.getD_some]
  rfl
set_option maxHeartbeats 1000000 in
theorem number_any (l : List UInt8) (w : World) (hl : l.length ≤ 9) (hd : ∀ c ∈ l, isd c) :
    Calls Tryd.prog 35 #[.string ⟨⟨l⟩⟩] w fun e w' => e = .returned (.int .i64 (dn l)) ∧ w = w' := by
  have hsz : (⟨⟨l⟩⟩ : ByteArray).size = l.length := rfl
  have hb := fun k => dn_bounds (l := l.take k) (fun c hc => hd c (List.mem_of_mem_take hc))
  go_enter Tryd.func35, Tryd.ntmps35
  go_wp2
  go_loopw [3, 7] (fun n i wr => ∃ (k : Nat) (m : Int), n = .int .i64 m ∧ i = .int .i64 k ∧ k ≤ l.length ∧ Hid (m = dn (l.take k)) ∧ w = wr)
    (fun _ i _ => l.length - (intOf i).toNat)
  case atStart => exact ⟨0, 0, rfl, rfl, Nat.zero_le _, Lib.hid (by simp [dn]), rfl⟩
  case round =>
    obtain ⟨k, m, rfl, rfl, hk, hm, rfl⟩ := hrel
    by_cases hk' : k < l.length
    · have hs := dn_take_succ l k hk'
      rw [← hm.out] at hs
      have b1 := hb k
      rw [← hm.out, List.length_take, Nat.min_eq_left hk] at b1
      have hcd : isd (l.getD k 0) := by
        rw [List.getD_eq_getElem?_getD, List.getElem?_eq_getElem hk']; exact hd _ (List.getElem_mem hk')
      unfold isd at hcd
      have hp : (10 : Int) ^ k ≤ 10 ^ 8 := pow10_le (by omega)
      have hm9 : 0 ≤ m ∧ m < 1000000000 := by omega
      clear hb b1 hm
      go_wp2
      go_roundw
      case rel =>
        refine ⟨k + 1, _, rfl, by simp, by omega, Lib.hid ?_, trivial⟩
        rw [hs, byte_at]
        omega
      case measure => simp [intOf]; omega
    · have hkl : k = l.length := by omega
      subst hkl
      rw [List.take_length] at hm
      clear hb
      go_wp2
      go_ret
      exact ⟨by rw [← hm.out]; rfl, rfl⟩

/-- The text is that of a positive number: decimal digits alone, of which the first one is not 0. -/
def isPos (l : List UInt8) : Bool := l.all (fun c => decide (48 ≤ c.toNat) && decide (c.toNat ≤ 57)) && (0 < l.length && (l.getD 0 0).toNat != 48)
theorem isPos_no {l : List UInt8} {k : Nat} (hk : k < l.length) (h : (l.getD k 0).toNat < 48 ∨ 57 < (l.getD k 0).toNat) : isPos l = false := by
  have : l.all (fun c => decide (48 ≤ c.toNat) && decide (c.toNat ≤ 57)) = false := by
    rw [List.all_eq_false]
    refine ⟨l.getD k 0, ?_, by simp only [Bool.and_eq_true, decide_eq_true_eq]; omega⟩
    rw [List.getD_eq_getElem?_getD, List.getElem?_eq_getElem hk]; exact List.getElem_mem hk
  unfold isPos; rw [this]; rfl
theorem isPos_eq {l : List UInt8} (h : ∀ j, j < l.length → 48 ≤ (l.getD j 0).toNat ∧ (l.getD j 0).toNat ≤ 57) : isPos l = (decide (0 < l.length) && (l.getD 0 0).toNat != 48) := by
  have : l.all (fun c => decide (48 ≤ c.toNat) && decide (c.toNat ≤ 57)) = true := by
    rw [List.all_eq_true]
    intro c hc
    obtain ⟨i, hi, rfl⟩ := List.getElem_of_mem hc
    have := h i hi
    rw [List.getD_eq_getElem?_getD, List.getElem?_eq_getElem hi] at this
    simpa using this
  unfold isPos; rw [this]; rfl
theorem isPos_true {l : List UInt8} (h : isPos l = true) : ∃ c t, l = c :: t ∧ isd c ∧ c.toNat ≠ 48 ∧ (∀ d ∈ t, isd d) ∧ (∀ d ∈ l, isd d) := by
  have hd : ∀ j, j < l.length → 48 ≤ (l.getD j 0).toNat ∧ (l.getD j 0).toNat ≤ 57 := by
    intro j hj
    by_cases c : 48 ≤ (l.getD j 0).toNat ∧ (l.getD j 0).toNat ≤ 57
    · exact c
    · rw [isPos_no hj (by omega)] at h; cases h
  rw [isPos_eq hd] at h
  cases l with
  | nil => simp at h
  | cons c t =>
    have h0 := hd 0 (by simp)
    have hall : ∀ d ∈ c :: t, isd d := fun d hm => by
      obtain ⟨i, hi, rfl⟩ := List.getElem_of_mem hm
      have := hd i hi
      rw [List.getD_eq_getElem?_getD, List.getElem?_eq_getElem hi] at this
      exact this
    refine ⟨c, t, rfl, hall c (List.mem_cons_self ..), ?_, fun d hm => hall d (List.mem_cons_of_mem _ hm), hall⟩
    simpa using h
theorem bne48 (c : Nat) : ((c : Int) != 48) = (c != 48) := by
  rw [Bool.eq_iff_iff]; simp; omega
set_option maxHeartbeats 1000000 in
theorem isPositive_any (l : List UInt8) (w : World) (hl : l.length ≤ 1000000) :
    Calls Tryd.prog 34 #[.string ⟨⟨l⟩⟩] w fun e w' => e = .returned (.bool (isPos l)) ∧ w = w' := by
  have hsz : (⟨⟨l⟩⟩ : ByteArray).size = l.length := rfl
  have hno : ∀ k, k < l.length → ((l.getD k 0).toNat < 48 ∨ 57 < (l.getD k 0).toNat) → Hid (isPos l = false) := fun k hk h => Lib.hid (isPos_no hk h)
  have hyes : (∀ j, j < l.length → 48 ≤ (l.getD j 0).toNat ∧ (l.getD j 0).toNat ≤ 57) → Hid (isPos l = (decide (0 < l.length) && (l.getD 0 0).toNat != 48)) := fun h => Lib.hid (isPos_eq h)
  go_enter Tryd.func34, Tryd.ntmps34
  go_wp2
  go_loopw [6] (fun i wr => ∃ (k : Nat), i = .int .i64 k ∧ k ≤ l.length ∧ (∀ j, j < k → 48 ≤ (l.getD j 0).toNat ∧ (l.getD j 0).toNat ≤ 57) ∧ w = wr)
    (fun i _ => l.length - (intOf i).toNat)
  case atStart => exact ⟨0, rfl, Nat.zero_le _, fun j hj => by omega, rfl⟩
  case round =>
    obtain ⟨k, rfl, hk, hj, rfl⟩ := hrel
    by_cases hk' : k < l.length
    · have hb : ∀ h : k < (⟨⟨l⟩⟩ : ByteArray).size, ((⟨⟨l⟩⟩ : ByteArray)[k]'h).toNat = (l.getD k 0).toNat := fun h => by rw [byte_at]
      have h1 := hno k hk'
      obtain ⟨c, hc⟩ : ∃ c, (l.getD k 0).toNat = c := ⟨_, rfl⟩
      have hb' : ∀ h : k < (⟨⟨l⟩⟩ : ByteArray).size, ((⟨⟨l⟩⟩ : ByteArray)[k]'h).toNat = c := fun h => (hb h).trans hc
      rw [hc] at h1
      replace hc := Lib.hid hc
      clear hno hb
      by_cases c0 : c < 48 ∨ 57 < c
      · have Ho := h1 c0
        clear h1
        rcases c0 with c0 | c0
        · go_wp2
          go_ret
          exact ⟨by rw [Ho.out]; rfl, rfl⟩
        · have c1 : ¬ c < 48 := by omega
          go_wp2
          go_ret
          exact ⟨by rw [Ho.out]; rfl, rfl⟩
      · clear h1
        have c1 : ¬ c < 48 := by omega
        have c2 : ¬ 57 < c := by omega
        have hj2 : ∀ j, j < k + 1 → 48 ≤ (l.getD j 0).toNat ∧ (l.getD j 0).toNat ≤ 57 := fun j hj' => by
          rcases Nat.lt_or_ge j k with h | h
          · exact hj j h
          · rw [show j = k by omega, hc.out]; omega
        clear hyes hj
        go_wp2
        go_roundw
        case rel => exact ⟨k + 1, by simp, by omega, hj2, trivial⟩
        case measure => simp [intOf]; omega
    · have hkl : k = l.length := by omega
      subst hkl
      have Ho := hyes hj
      clear hno hyes hj
      by_cases h0 : l.length = 0
      · have : l = [] := List.length_eq_zero_iff.1 h0
        subst this
        go_wp2
        go_ret
        exact ⟨by rw [Ho.out]; rfl, rfl⟩
      · have hb : ∀ h : 0 < (⟨⟨l⟩⟩ : ByteArray).size, ((⟨⟨l⟩⟩ : ByteArray)[0]'h).toNat = (l.getD 0 0).toNat := fun h => by rw [byte_at]
        obtain ⟨c, hc⟩ : ∃ c, (l.getD 0 0).toNat = c := ⟨_, rfl⟩
        have hb' : ∀ h : 0 < (⟨⟨l⟩⟩ : ByteArray).size, ((⟨⟨l⟩⟩ : ByteArray)[0]'h).toNat = c := fun h => (hb h).trans hc
        rw [hc, show decide (0 < l.length) = true from decide_eq_true (by omega), Bool.true_and] at Ho
        clear hb hc
        have hl0 : 0 < l.length := by omega
        go_wp2
        go_ret
        exact ⟨by rw [Ho.out, ← bne48]; rfl, rfl⟩
end Go.Proofs.YthhbnhdejbpjiaaDoor
