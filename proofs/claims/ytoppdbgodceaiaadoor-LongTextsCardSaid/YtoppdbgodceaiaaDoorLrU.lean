/-
  The reference: Decimal.
-/
import Derived.Test.YtoppdbgodceaiaaDoorLrX
import Derived.Deep.Cut
namespace Go.Proofs.YtoppdbgodceaiaaDoor
open Go.RowKit

/-- How long a slice is. -/
def slen : Value → Nat | .slice _ n _ => n | _ => 0
/-- Block g is a row of the bytes l. -/
def Rb (w : World) (g : Nat) (l : List UInt8) : Prop := w.heap[g]? = some (.cells (Lib.byteCells l).toArray 5 (0, 0))
theorem Rb.cell {w : World} {g : Nat} {l : List UInt8} (h : Rb w g l) {i : Nat} (hi : i < l.length) : w.cell? ⟨g, i, none⟩ = some (.int .u8 (l[i]).toNat) := by
  rw [cell_of_row w g i _ 5 (0, 0) h]
  simp [Lib.byteCells, hi]
theorem Rb.frz {w : World} {g : Nat} {l : List UInt8} (h : Rb w g l) (i : Nat) : w.frozen? ⟨g, i, none⟩ = false := frozen_of_row w g i _ 5 h
theorem Rb.stored {w : World} {g : Nat} {l : List UInt8} (h : Rb w g l) (i : Nat) (x : UInt8) : Rb (w.setCell ⟨g, i, none⟩ (.int .u8 x.toNat)) g (l.set i x) := by
  unfold Rb at *
  rw [heap_setCell_same w g i _ 5 _ h]
  simp [Lib.byteCells, List.map_set]
theorem Rb.lt {w : World} {g : Nat} {l : List UInt8} (h : Rb w g l) : g < w.heap.size := (Array.getElem?_eq_some_iff.1 h).1
theorem Rb.own {w : World} {base g n : Nat} {l : List UInt8} (h : w.ownsRow base 5 1 (.slice (some ⟨g, 0, none⟩) n n) n (Lib.byteCells l)) : Rb w g l := by
  rcases h.2 with ⟨h', _⟩ | ⟨g', cap', cur, h', _, hg, _, _, hs, htake⟩
  · simp at h'
  · simp only [Value.slice.injEq, Option.some.injEq, Addr.mk.injEq, and_true, true_and] at h'
    obtain ⟨rfl, rfl⟩ := h'
    unfold Rb
    rw [hg, ← htake, List.take_of_length_le (by rw [Array.length_toList]; omega)]
theorem Rb.made {w w' : World} {g n : Nat} (h : w'.ownsRow w.heap.size 5 1 (.slice (some ⟨g, 0, none⟩) n n) n (madeCells #[.int .u8 0] n).toList) : Rb w' g (List.replicate n 0) := by
  rw [toList_madeCells_one, show List.replicate n (Value.int IntKind.u8 0) = Lib.byteCells (List.replicate n 0) by simp [Lib.byteCells]] at h
  exact Rb.own h
theorem own_take {w : World} {base : Nat} {e : TypeId} {g n cap : Nat} {xs : List Value} (h : w.ownsRow base e 1 (.slice (some ⟨g, 0, none⟩) n cap) n xs) {m : Nat} (hm : m ≤ n) : w.ownsRow base e 1 (.slice (some ⟨g, 0, none⟩) m cap) m (xs.take m) := by
  obtain ⟨h1, h2⟩ := h
  rcases h2 with ⟨h', _⟩ | ⟨g', cap', cur, h', hb, hg, hn, hc, hs, ht⟩
  · simp at h'
  · simp only [Value.slice.injEq, Option.some.injEq, Addr.mk.injEq, and_true, true_and] at h'
    obtain ⟨rfl, rfl⟩ := h'
    refine ⟨by rw [List.length_take]; omega, .inr ⟨g, cap, cur, rfl, hb, hg, by omega, hc, hs, ?_⟩⟩
    rw [← ht, List.take_take]; congr 1; omega
theorem own_cap {w : World} {base : Nat} {e : TypeId} {g n cap : Nat} {xs : List Value} (h : w.ownsRow base e 1 (.slice (some ⟨g, 0, none⟩) n cap) n xs) : n ≤ cap ∧ base ≤ g := by
  obtain ⟨h1, h2⟩ := h
  rcases h2 with ⟨h', _⟩ | ⟨g', cap', cur, h', hb, hg, hn, _⟩
  · simp at h'
  · simp only [Value.slice.injEq, Option.some.injEq, Addr.mk.injEq, and_true, true_and] at h'
    obtain ⟨rfl, rfl⟩ := h'
    exact ⟨hn, hb⟩
theorem lo_cells (n X : Nat) : Lib.byteCells (lo (n + 1) X) = Lib.byteCells (lo n X) ++ [.int .u8 ((48 + X / 10 ^ n % 10 : Nat) : Int)] := by
  rw [lo_succ, Lib.byteCells_append]
  congr 1
  simp only [Lib.byteCells, List.map_cons, List.map_nil, UInt8.toNat_ofNat']
  congr 2
  omega
theorem lo_cut (n m X : Nat) (h : m ≤ n) : (Lib.byteCells (lo n X)).take m = Lib.byteCells (lo m X) := by
  unfold Lib.byteCells
  rw [← List.map_take, lo_take n m X h]
theorem lo_at (n j X : Nat) (h : j < n) : (Lib.byteCells (lo n X))[j]? = some (.int .u8 ((48 + X / 10 ^ j % 10 : Nat) : Int)) := by
  unfold Lib.byteCells lo
  simp only [List.map_map, List.getElem?_map, List.getElem?_range h, Option.map_some, Function.comp, UInt8.toNat_ofNat']
  congr 2
  omega
set_option maxRecDepth 100000 in
set_option maxHeartbeats 4000000 in
theorem rdec_pos (b : Bool) (s1 : Value) (x : Int) (w : World) (x0 : 0 < x) (h1 : Ls w s1 (dg x)) (l1 : (dg x).length ≤ 600) :
    Calls Tryd.prog 51 #[.agg #[.bool b, s1]] w fun e w' => e = .returned (.string ⟨⟨(if b then [45] else []) ++ tx x⟩⟩) ∧ Below w.heap.size w w' := by
  obtain ⟨iB, hiB, hzB0, hzB1, hzB2⟩ := info_parts Tryd.infoByte
  have da := dg_dig x (by omega)
  obtain ⟨t1, t2, t3, t4⟩ := tx_lo x0
  have hN9 := tx_len (x := x) (by omega) (dg_lt (by omega))
  have n0 := dg_len_pos x0
  have HD := Lib.hid (lo_digit (x := x) (by omega))
  have HH := Lib.hid (fun j => lo_high (j := j) t2)
  have HT := Lib.hid (lo_top t3 t2 t4)
  have HR := Lib.hid t1
  generalize x.toNat = X at *
  obtain ⟨N, hN⟩ : ∃ N, (tx x).length = N := ⟨_, rfl⟩
  rw [hN] at hN9 t4 HH HT HR
  clear t1 t2 t3 hN x0
  generalize dg x = a at *
  have h1' := h1
  obtain ⟨pa, ca, rfl, _, _⟩ := h1'
  have hB : Below w.heap.size w (w.alloc (.cells #[.bool b, .slice pa a.length ca] 24)) := by (repeat (first | with_reducible exact Below.refl _ _ | with_reducible assumption | refine Below.alloc ?_ (by (try simp); try omega) _ | refine Below.setCell ?_ (by (try simp); try omega) _ | refine below_drewN ?_ _ | refine Below.drew ?_ | (with_reducible refine Below.trans ?_ (Below.mono (by assumption) (by (try simp); try omega)))))
  have bA := Bx.new w (.bool b) (.slice pa a.length ca) 24
  have rbA0 := bA.c0
  have rbA1 := bA.c1
  have hsz : (w.alloc (.cells #[.bool b, .slice pa a.length ca] 24)).heap.size = w.heap.size + 1 := by simp
  have n1 : ((a.length : Int) == 0) = false := by rw [beq_eq_false_iff_ne]; omega
  go_enter Tryd.func51, Tryd.ntmps51
  go_wp2
  generalize w.alloc (.cells #[.bool b, .slice pa a.length ca] 24) = w1 at *
  clear rbA0 rbA1
  go_loopw [3, 4] (fun v i wr => ∃ k : Nat, i = .int .i64 k ∧ k ≤ a.length ∧ wr.ownsRow (w.heap.size + 1) 5 1 v (9 * k) (Lib.byteCells (lo (9 * k) X)) ∧ Below (w.heap.size + 1) w1 wr)
    (fun _ i _ => a.length - (intOf i).toNat)
  case atStart => exact ⟨0, rfl, by omega, World.ownsRow_nil _ _ _ _, by rw [← hsz]; exact Below.refl _ _⟩
  case round =>
    obtain ⟨k, rfl, hk, hown, hx⟩ := hrel
    have bA1 := bA.keepB hx (by omega)
    have rA1 := bA1.c1
    by_cases hka : k < a.length
    · have c1 : (k : Int) < (a.length : Int) := by omega
      have h1r := h1.keep (hB.trans (hx.mono (by omega)))
      obtain ⟨ga, oa, rfl, hca⟩ := h1r.at hka
      have hd := da.el (by omega) k
      have HDk := Lib.hid (fun j hj => HD.out k j hj)
      obtain ⟨D, hD⟩ : ∃ D : Nat, el a k = D := ⟨(el a k).toNat, by omega⟩
      rw [hD] at hca hd HDk
      clear hD h1r
      go_wp2
      go_loopw [3, 5, 6] (fun v d j wr => ∃ m : Nat, d = .int .i64 ((D / 10 ^ m : Nat) : Int) ∧ j = .int .i64 m ∧ m ≤ 9 ∧ wr.ownsRow (w.heap.size + 1) 5 1 v (9 * k + m) (Lib.byteCells (lo (9 * k + m) X)) ∧ Below (w.heap.size + 1) w1 wr)
        (fun _ _ j _ => 9 - (intOf j).toNat)
      case atStart => exact ⟨0, by simp, rfl, by omega, hown, hx⟩
      case round =>
        clear hown hx bA1 rA1 hca
        obtain ⟨m, rfl, rfl, hm, hown, hx⟩ := hrel
        have hsx := hx.size
        rw [hsz] at hsx
        by_cases hm9 : m < 9
        · have c2 : (m : Int) < 9 := by omega
          have hdig := HDk.out m hm9
          rw [Int.toNat_natCast] at hdig
          have hq2 : D / 10 ^ (m + 1) = D / 10 ^ m / 10 := by rw [Nat.pow_succ, Nat.div_div_eq_div_mul]
          have hqb : D / 10 ^ m ≤ D := Nat.div_le_self _ _
          obtain ⟨q, hq⟩ : ∃ q, D / 10 ^ m = q := ⟨_, rfl⟩
          rw [hq] at hdig hq2 hqb ⊢
          have q1 : (q : Int) < 1000000000 := by omega
          have q0 : (0 : Int) ≤ (q : Int) := by omega
          have hc := lo_cells (9 * k + m) X
          rw [← hdig, show ((48 + q % 10 : Nat) : Int) = 48 + (q : Int) % 10 by omega] at hc
          have HC := Lib.hid hc
          have HQ := Lib.hid hq2
          clear hc hq2 hdig hq hd hqb
          go_wp2_with (at_builtin; refine wpList_append_own _ rfl _ _ 59 rfl (w.heap.size + 1) 5 iB (.int .u8 0) 1 1 Tryd.underlying59 hiB hzB0 hzB1 hzB2 rfl (by decide) _ _ _ rfl (hown.alloc _) ⟨wr.heap.size, 0, none⟩ 1 1 [.int .u8 (48 + (q : Int) % 10)] rfl rfl (one_at _ _ _) (one_cell _ _) (by unfold maxLen; omega) (by omega) (by have := hx.size; simp only [World.size_alloc]; omega) ?_)
          intro v' w2 hown' hgrow _
          have hb := (hx.alloc (by omega) (.cells #[.int .u8 (48 + (q : Int) % 10)] 5)).grown hgrow (by simp only [World.size_alloc]; omega) (fun k hk => (hown.lt k hk).1)
          have hown2 : w2.ownsRow (w.heap.size + 1) 5 1 v' (9 * k + (m + 1)) (Lib.byteCells (lo (9 * k + (m + 1)) X)) := by
            rw [show 9 * k + (m + 1) = 9 * k + m + 1 by omega, HC.out]; exact hown'
          clear hown hgrow hx hown'
          go_wp2
          go_roundw
          case rel => exact ⟨m + 1, by rw [HQ.out]; simp, by simp, by omega, hown2, hb⟩
          case measure => simp [intOf]; omega
        · have c2 : ¬ (m : Int) < 9 := by omega
          obtain rfl : m = 9 := by omega
          go_wp2
          go_roundw
          case rel => exact ⟨k + 1, by simp, by omega, hown, hx⟩
          case measure => simp [intOf]; omega
    · have c1 : ¬ (k : Int) < (a.length : Int) := by omega
      obtain rfl : k = a.length := by omega
      clear hk hka bA1 h1 HD
      obtain ⟨g, cap, rfl⟩ := own_head hown (by omega)
      go_wp2
      go_loopw [3] (fun v wr => ∃ (m g cap : Nat), v = .slice (some ⟨g, 0, none⟩) m cap ∧ N ≤ m ∧ m ≤ 9 * a.length ∧ wr.ownsRow (w.heap.size + 1) 5 1 (.slice (some ⟨g, 0, none⟩) m cap) m (Lib.byteCells (lo m X)) ∧ Below (w.heap.size + 1) w1 wr)
        (fun v _ => slen v)
      case atStart => exact ⟨_, _, _, rfl, hN9, Nat.le_refl _, hown, hx⟩
      case round =>
        clear hown hx
        obtain ⟨m, g, cap, rfl, hNm, hm, hown, hx⟩ := hrel
        have hsx := hx.size
        rw [hsz] at hsx
        have hcm := (hown.cellAt (m - 1) (by omega)).trans (lo_at m (m - 1) X (by omega))
        have hcp := (own_cap hown).1
        have hcp1 : (m : Int) - 1 ≤ (cap : Int) := by omega
        have hcp0 : (0 : Int) ≤ (m : Int) - 1 := by omega
        by_cases hmN : m = N
        · subst hmN
          have er := HT.out
          obtain ⟨r, hr⟩ : ∃ r, X / 10 ^ (m - 1) % 10 = r := ⟨_, rfl⟩
          rw [hr] at hcm er
          have hne : (((48 + r : Nat) : Int) == 48) = false := by rw [beq_eq_false_iff_ne]; omega
          have bA1 := bA.keepB hx (by omega)
          have rA0 := bA1.c0
          clear hr er HT HH hNm hm rA1
          cases b
          case' true =>
            go_wp2_with (at_builtin; refine wpList_append_own _ rfl _ _ 59 rfl (w.heap.size + 1) 5 iB (.int .u8 0) 1 1 Tryd.underlying59 hiB hzB0 hzB1 hzB2 rfl (by decide) _ _ _ rfl (hown.alloc _) ⟨wr.heap.size, 0, none⟩ 1 1 [.int .u8 45] rfl rfl (one_at _ _ _) (one_cell _ _) (by unfold maxLen; omega) (by omega) (by simp only [World.size_alloc]; omega) ?_)
            intro v' w2 hown' hgrow _
            have hx2 := (hx.alloc (by omega) (.cells #[.int .u8 45] 5)).grown hgrow (by simp only [World.size_alloc]; omega) (fun k hk => (hown.lt k hk).1)
            obtain ⟨L, hL⟩ : ∃ L, L = lo m X ++ [45] := ⟨_, rfl⟩
            obtain ⟨M, hM⟩ : ∃ M, M = m + 1 := ⟨_, rfl⟩
            have hLM : L.length = M := by rw [hL, hM, List.length_append, lo_length]; rfl
            have own2 : w2.ownsRow (w.heap.size + 1) 5 1 v' M (Lib.byteCells L) := by rw [hL, hM, Lib.byteCells_append]; exact hown'
            have hrev : Hid (L.reverse = (if true = true then [45] else []) ++ tx x) := Lib.hid (by rw [hL]; simp [HR.out])
            have M1 : 0 < M := by omega
            have M2 : M ≤ 5401 := by omega
            clear hgrow hown' hown hL hM hcm hne rA0 hcp hcp1 hcp0
            obtain ⟨g2, cap2, rfl⟩ := own_head own2 M1
          case' false =>
            obtain ⟨L, hL⟩ : ∃ L, L = lo m X := ⟨_, rfl⟩
            have hLM : L.length = m := by rw [hL, lo_length]
            have own2 : wr.ownsRow (w.heap.size + 1) 5 1 (.slice (some ⟨g, 0, none⟩) m cap) m (Lib.byteCells L) := by rw [hL]; exact hown
            have hrev : Hid (L.reverse = (if false = true then [45] else []) ++ tx x) := Lib.hid (by rw [hL]; simp [HR.out])
            have M1 : 0 < m := by omega
            have M2 : m ≤ 5401 := by omega
            have hx2 := hx
            clear hown hL
            generalize wr = w2 at *
            generalize g = g2 at *
            generalize cap = cap2 at *
            generalize m = M at *
          all_goals
            have hs2 := hx2.size
            rw [hsz] at hs2
            go_wp2_with (at_make; refine wpList_make_full _ rfl (.tmp 56) (.tmp 56) 59 rfl w2.heap.size 5 iB (.int .u8 0) 1 Tryd.underlying59 hiB hzB0 hzB1 .i64 .i64 (M : Int) (M : Int) M rfl rfl (by omega) (by omega) (by rw [hzB2]; omega) (by unfold maxLen; omega) (Nat.le_refl _) ?_)
            intro w5 hown5 hgrow
            have hr : Rb w5 w2.heap.size (List.replicate M 0) := Rb.made hown5
            have hnx : Below w2.heap.size w2 w5 := (Below.refl _ _).grown hgrow (Nat.le_refl _) (fun k hk => by cases hk)
            have hc : ∀ j, j < M → w5.cell? ⟨g2, j, none⟩ = some (.int .u8 (L.getD j 0).toNat) := fun j hj => lkeep hnx (by
              have hj' : j < L.length := by omega
              rw [own2.cellAt j (by omega), List.getD_eq_getElem?_getD]; simp [Lib.byteCells, List.getElem?_eq_getElem hj'])
            have Hc := Lib.hid hc
            have hg2 := World.block_lt_of_cell? w5 _ (hc 0 M1)
            have hg5 : g2 < w2.heap.size := by
              have := own2.cellAt 0 (by omega)
              have hlt := World.block_lt_of_cell? w2 ⟨g2, 0, none⟩ (by rw [this, List.getElem?_eq_getElem (by rw [Lib.byteCells_length]; omega)])
              exact hlt
            have hB5 : Below w.heap.size w w5 := (hB.trans (hx2.mono (by omega))).trans (hnx.mono (by have := hB.size; omega))
            have hw2 : w.heap.size ≤ w2.heap.size := by have := hB.size; omega
            clear hown5 hgrow hnx own2 hc hx2 hs2 hg2 hB bA
            obtain ⟨g5, hg⟩ : ∃ g5, w2.heap.size = g5 := ⟨_, rfl⟩
            rw [hg] at hr hg5 hw2
            go_wp2
            simp only [hg]
            go_loopw [8] (fun i wr => ∃ (k : Nat) (R : List UInt8), i = .int .i64 k ∧ k ≤ M ∧ R.length = M ∧ Hid (∀ j, j < k → R.getD j 0 = L.getD (M - 1 - j) 0) ∧ Rb wr g5 R ∧ Below g5 w5 wr)
              (fun i _ => M - (intOf i).toNat)
            case atStart => exact ⟨0, _, rfl, by omega, by simp, Lib.hid (fun j hj => by omega), hr, Below.refl _ _⟩
            case round =>
              clear hr
              obtain ⟨k, R, rfl, hk, hl, hH, hr, hx⟩ := hrel
              by_cases hkM : k < M
              · have c2 : (k : Int) < (M : Int) := by omega
                have hco := (hx.cell (p := ⟨g2, M - 1 - k, none⟩) hg5).trans (Hc.out (M - 1 - k) (by omega))
                obtain ⟨c, hcc⟩ : ∃ c : UInt8, L.getD (M - 1 - k) 0 = c := ⟨_, rfl⟩
                rw [hcc] at hco
                have hfr := hr.frz k
                have hcr := hr.cell (i := k) (by omega)
                have hlt5 := hr.lt
                have hH2 : Hid (∀ j, j < k + 1 → (R.set k c).getD j 0 = L.getD (M - 1 - j) 0) := Lib.hid (fun j hj => by
                  rw [List.getD_eq_getElem?_getD]
                  rcases Nat.lt_or_ge j k with h | h
                  · rw [List.getElem?_set_ne (by omega), ← List.getD_eq_getElem?_getD]; exact hH.out j h
                  · obtain rfl : j = k := by omega
                    rw [List.getElem?_set_self (by omega)]; simpa using hcc.symm)
                clear hcc
                go_wp2
                go_roundw
                case rel => exact ⟨k + 1, R.set k c, by simp, by omega, by simpa using hl, hH2, hr.stored k c, by (repeat (first | with_reducible exact Below.refl _ _ | with_reducible assumption | refine Below.alloc ?_ (by (try simp); try omega) _ | refine Below.setCell ?_ (by (try simp); try omega) _ | refine below_drewN ?_ _ | refine Below.drew ?_ | (with_reducible refine Below.trans ?_ (Below.mono (by assumption) (by (try simp); try omega)))))⟩
                case measure => simp [intOf]; omega
              · have c2 : ¬ (k : Int) < (M : Int) := by omega
                obtain rfl : k = M := by omega
                have hRL : R = L.reverse := by
                  refine List.ext_getElem? fun j => ?_
                  rcases Nat.lt_or_ge j k with h | h
                  · have := hH.out j h
                    rw [List.getD_eq_getElem?_getD, List.getElem?_eq_getElem (by omega), List.getD_eq_getElem?_getD, List.getElem?_eq_getElem (by omega)] at this
                    rw [List.getElem?_reverse (by omega), hLM, List.getElem?_eq_getElem (by omega), List.getElem?_eq_getElem (by omega)]
                    simpa using this
                  · rw [List.getElem?_eq_none (by omega), List.getElem?_eq_none (by rw [List.length_reverse]; omega)]
                have hcv := run_convert_bytes_back wr 59 9 5 ⟨g5, 0, none⟩ k R Tryd.underlying59 Tryd.underlying5 Tryd.underlying9 (fun i hi => by
                  rw [Lib.add_plain]
                  simpa using hr.cell hi)
                rw [hl] at hcv
                have HT := Lib.hid (hRL.trans hrev.out)
                have hfin := hB5.trans (hx.mono hw2)
                clear hRL hrev hH hr hx
                go_wp2
                go_ret
                exact ⟨by rw [HT.out]; rfl, hfin⟩
        · have e0 := HH.out (m - 1) (by omega)
          rw [e0] at hcm
          have hown2 := own_take hown (m := m - 1) (by omega)
          rw [lo_cut _ _ _ (by omega)] at hown2
          clear e0 hown
          go_wp2
          go_roundw
          case rel => exact ⟨m - 1, g, cap, by simp, by omega, by omega, hown2, hx⟩
          case measure => simp [slen]; omega
set_option maxRecDepth 100000 in
set_option maxHeartbeats 1000000 in
theorem rdec_zero (s1 : Value) (w : World) (h1 : Ls w s1 []) :
    Calls Tryd.prog 51 #[.agg #[.bool false, s1]] w fun e w' => e = .returned (.string ⟨⟨[48]⟩⟩) ∧ Below w.heap.size w w' := by
  obtain ⟨pa, ca, rfl, _, _⟩ := h1
  have hB : Below w.heap.size w (w.alloc (.cells #[.bool false, .slice pa 0 ca] 24)) := by (repeat (first | with_reducible exact Below.refl _ _ | with_reducible assumption | refine Below.alloc ?_ (by (try simp); try omega) _ | refine Below.setCell ?_ (by (try simp); try omega) _ | refine below_drewN ?_ _ | refine Below.drew ?_ | (with_reducible refine Below.trans ?_ (Below.mono (by assumption) (by (try simp); try omega)))))
  have bA := Bx.new w (.bool false) (.slice pa 0 ca) 24
  have rbA1 := bA.c1
  go_enter Tryd.func51, Tryd.ntmps51
  go_wp2
  go_ret
  exact ⟨rfl, hB⟩
/-- The decimal text of a number. -/
theorem rdec_num (A : Value) (z : Int) (w : World) (hA : Lg w A z) (l1 : (dg (z.natAbs : Int)).length ≤ 600) :
    Calls Tryd.prog 51 #[A] w fun e w' => e = .returned (.string (sx z)) ∧ Below w.heap.size w w' := by
  obtain ⟨s1, rfl, h1⟩ := hA
  unfold sx
  rw [itoa_sign]
  rcases Int.lt_trichotomy z 0 with h | h | h
  · rw [show decide (z < 0) = true by simpa using h, if_pos h]
    exact rdec_pos true s1 _ w (by omega) h1 l1
  · subst h
    rw [show (((0 : Int).natAbs : Nat) : Int) = 0 from rfl, dg_zero] at h1
    have e : tx (((0 : Int).natAbs : Nat) : Int) = [48] := by unfold tx; rw [Lib.decDigits_one (by simp)]; rfl
    rw [e, if_neg (by omega)]
    exact (rdec_zero s1 w h1)
  · rw [show decide (z < 0) = false by simp; omega, if_neg (by omega)]
    exact rdec_pos false s1 _ w (by omega) h1 l1
end Go.Proofs.YtoppdbgodceaiaaDoor
