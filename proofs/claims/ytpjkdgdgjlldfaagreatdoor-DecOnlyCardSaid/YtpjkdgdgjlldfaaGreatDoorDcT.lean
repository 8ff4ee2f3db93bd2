/-
  Package dec: Text.
-/
import Derived.Test.YtpjkdgdgjlldfaaGreatDoorDcB
import Derived.Deep.AppendLies
import Derived.Deep.RegionLaw
import Derived.Lib.ItoaMem
import Derived.Lib.ItoaLen
namespace Go.Proofs.YtpjkdgdgjlldfaaGreatDoor
open Go.RowKit

theorem Tryz.infoByte : (Tryz.prog.info? 5).map (fun i => (i.zero, i.size, i.bytes)) = some (some (.int .u8 0), 1, 1) := by kernel_rfl
theorem wrU {n : Int} (h0 : 0 ≤ n) (h1 : n < 18446744073709551616) : IntKind.u64.wrap n = n := by
  unfold IntKind.wrap; simp [IntKind.signed, IntKind.bits]; omega
theorem wr8 {n : Int} (h0 : 0 ≤ n) (h1 : n < 256) : IntKind.u8.wrap n = n := by
  unfold IntKind.wrap; simp [IntKind.signed, IntKind.bits]; omega
theorem own_heap {w w' : World} {base : Nat} {e : TypeId} {size : Nat} {v : Value} {n : Nat} {xs : List Value} (h : w.ownsRow base e size v n xs) (hh : w'.heap = w.heap) : w'.ownsRow base e size v n xs := by
  unfold World.ownsRow at *
  rw [hh]; exact h
theorem one_at (w : World) (x : Value) (t : TypeId) : ∀ (j : Nat) (u : Value), [x][j]? = some u → (w.alloc (.cells #[x] t)).cell? (Addr.add ⟨w.heap.size, 0, none⟩ j) = some u := by
  intro j u hj
  match j, hj with
  | 0, hj => simp at hj; subst hj; simp [Addr.add]
theorem one_cell (k : IntKind) (x : Int) : ∀ u ∈ [Value.int k x], u.oneCell' = true := by
  intro u hu; simp at hu; subst hu; rfl
theorem news_heap {w w' : World} (x : Value) (t : TypeId) (hh : w'.heap = (w.alloc (.cells #[x] t)).heap) : ∀ (j : Nat) (u : Value), [x][j]? = some u → w'.cell? (Addr.add ⟨w.heap.size, 0, none⟩ j) = some u := by
  intro j u h
  have := one_at w x t j u h
  rw [← this]
  exact World.cell?_of_block (by rw [hh])
/-- A box is no row of another type. -/
theorem box_row {w : World} {b base size n : Nat} {cs : Array Value} {t e : TypeId} {v : Value} {ys : List Value} (hk : Bn w b cs t) (hown : w.ownsRow base e size v n ys) (hne : t ≠ e) : some b ≠ v.ownBlock := by
  rcases hown.2 with ⟨rfl, -⟩ | ⟨g, cap, cur, rfl, -, hg, -⟩
  · intro h; cases h
  · intro h
    have e1 : b = g := Option.some.inj h
    subst e1
    have e2 := hk.symm.trans hg
    injection e2 with e2
    injection e2 with _ e3
    exact hne e3
theorem Bn.grownR {w w' : World} {b base size n : Nat} {cs : Array Value} {t e : TypeId} {v : Value} {ys : List Value} (hg : w.grownBy w' v.ownBlock) (hk : Bn w b cs t) (hown : w.ownsRow base e size v n ys) (hne : t ≠ e) : Bn w' b cs t := by
  have hb := box_row hk hown hne
  have hl := hk.lt
  unfold Bn at *
  rw [hg.block b hl hb]; exact hk
theorem own_box {w : World} {b base size n i : Nat} {cs : Array Value} {t e : TypeId} {v x : Value} {ys : List Value} (hown : w.ownsRow base e size v n ys) (hk : Bn w b cs t) (hne : t ≠ e) : (w.setCell ⟨b, i, none⟩ x).ownsRow base e size v n ys := by
  have hb := box_row hk hown hne
  refine ⟨hown.1, ?_⟩
  rcases hown.2 with h | ⟨g, cap, cur, rfl, h1, hg, h2⟩
  · exact Or.inl h
  · refine Or.inr ⟨g, cap, cur, rfl, h1, ?_, h2⟩
    rw [heap_setCell_other w ⟨b, i, none⟩ g x (by intro k; exact hb (by rw [show b = g from k.symm]; rfl))]; exact hg
set_option maxRecDepth 100000 in
set_option maxHeartbeats 2000000 in
theorem place_any (r t u B n : Nat) (rest unit q m : Int) (v : Value) (xs : List Value) (w : World) (hR : Bn w r #[.int .u64 rest] 83) (hT : Bn w t #[v] 27) (hU : Bn w u #[.int .u64 unit] 83) (hown : w.ownsRow B 5 1 v n xs)
    (hru : r ≠ u) (Br : B ≤ r) (Bt : B ≤ t) (hn : n ≤ 1000) (r0 : 0 ≤ rest) (r1 : rest < unit) (u1 : unit ≤ 1000000000000000000) (hq : q = rest * 10 / unit) (hm : m = rest * 10 % unit) :
    Calls Tryz.prog 46 #[.pointer (some ⟨r, 0, none⟩), .pointer (some ⟨t, 0, none⟩), .pointer (some ⟨u, 0, none⟩)] w fun e w' => e = .returned (.tuple #[]) ∧ ∃ v', Bn w' r #[.int .u64 m] 83 ∧ Bn w' t #[v'] 27 ∧ Bn w' u #[.int .u64 unit] 83 ∧ w'.ownsRow B 5 1 v' (n + 1) (xs ++ [.int .u8 (48 + q)]) ∧ Below B w w' := by
  obtain ⟨iB, hi, hz0, hz1, hz2⟩ := info_parts Tryz.infoByte
  have htu : (52 : Nat) ≠ 53 := by decide
  have hrt : r ≠ t := by
    rintro rfl
    have e := hR.symm.trans hT
    injection e with e
    injection e with _ e
    exact absurd e (by decide)
  have hut : u ≠ t := by
    rintro rfl
    have e := hU.symm.trans hT
    injection e with e
    injection e with _ e
    exact absurd e (by decide)
  have q0 : 0 ≤ q := by rw [hq]; exact Int.ediv_nonneg (by omega) (by omega)
  have q9 : q ≤ 9 := by
    have : rest * 10 / unit < 10 := Int.ediv_lt_of_lt_mul (by omega) (by omega)
    omega
  have m0 : 0 ≤ m := by rw [hm]; exact Int.emod_nonneg _ (by omega)
  have m1 : m < unit := by rw [hm]; exact Int.emod_lt_of_pos _ (by omega)
  have Hq := Lib.hid hq
  have Hm := Lib.hid hm
  clear hq hm
  obtain ⟨y, hy⟩ : ∃ y, rest * 10 = y := ⟨_, rfl⟩
  have y0 : 0 ≤ y := by omega
  have y1 : y < 10000000000000000000 := by omega
  rw [hy] at Hq Hm
  replace hy := Lib.hid hy
  have cR := hR.cell 0 (.int .u64 rest) rfl
  have zR := hR.f 0
  have lR := hR.lt
  go_enter Tryz.func46, Tryz.ntmps46
  go_wp2_with fail
  clear cR zR lR
  simp only [hy.out]
  have hR1 := hR.put 0 (.int .u64 y)
  have hT1 := hT.far (fun k => hrt k.symm) 0 (.int .u64 y)
  have hU1 := hU.far (fun k => hru k.symm) 0 (.int .u64 y)
  have hown1 := own_box (i := 0) (x := .int .u64 y) hown hR (by decide)
  have hB1 : Below B w (w.setCell ⟨r, 0, none⟩ (.int .u64 y)) := (Below.refl B w).setCell Br _
  generalize w.setCell ⟨r, 0, none⟩ (.int .u64 y) = w1 at *
  replace hR1 : Bn w1 r #[.int .u64 y] 83 := hR1
  have e1 : y.tdiv unit = q := by rw [Hq.out, Int.tdiv_eq_ediv_of_nonneg y0]
  have e2 : y / unit = q := Hq.out.symm
  have e3 : y.tmod unit = m := by rw [Hm.out, Int.tmod_eq_emod_of_nonneg y0]
  have e4 : y % unit = m := Hm.out.symm
  have une : (unit == 0) = false := beq_eq_false_iff_ne.2 (by omega)
  have une2 : ¬ unit = 0 := by omega
  have f1 : IntKind.u64.wrap q = q := wrU q0 (by omega)
  have f2 : IntKind.u8.wrap q = q := wr8 q0 (by omega)
  have f3 : IntKind.u8.wrap (48 + q) = 48 + q := wr8 (by omega) (by omega)
  have f4 : IntKind.u64.wrap m = m := wrU m0 (by omega)
  have hBsz : B ≤ w1.heap.size := by have := hT1.lt; omega
  clear hR hT hU hown Hq Hm hy
  have cT := hT1.cell 0 v rfl
  have cR := hR1.cell 0 (.int .u64 y) rfl
  have cU := hU1.cell 0 (.int .u64 unit) rfl
  have cTa : (w1.alloc (.cells #[.int .u8 (48 + q)] 5)).cell? ⟨t, 0, none⟩ = some v := dkeep (by (repeat (first | with_reducible exact Below.refl _ _ | with_reducible assumption | refine Below.alloc ?_ (by (try simp); try omega) _ | refine Below.setCell ?_ (by (try simp); try omega) _ | refine below_drewN ?_ _ | refine Below.drew ?_ | (with_reducible refine Below.trans ?_ (Below.mono (by assumption) (by (try simp); try omega)))))) cT
  have lT := hT1.lt
  have ne1 : t ≠ w1.heap.size := by omega
  have ne2 := ne1.symm
  go_region_law ((refine step_append_lies _ (by rfl) _ _ _ (by rfl) B 5 iB (.int .u8 0) 1 1 Tryz.underlying27 hi hz0 hz1 hz2 rfl (by decide) v n xs (by rfl) (by exact own_heap (hown1.alloc (.cells #[.int .u8 (48 + q)] 5)) rfl) ⟨w1.heap.size, 0, none⟩ 1 1 [.int .u8 (48 + q)] (by rfl) (by rfl) (by exact news_heap (w := w1) (.int .u8 (48 + q)) 5 rfl) (one_cell _ _) (by omega) (by unfold maxLen; omega) (by omega) (by simp; omega) (w1.heap.size + 1) (by simp) ?_; intro gg cap w2 hown2 hgrow hat hlt2; have hT2 := Bn.grownR hgrow (hT1.alloc (.cells #[.int .u8 (48 + q)] 5)) (own_heap (hown1.alloc (.cells #[.int .u8 (48 + q)] 5)) rfl) (by decide); have cT2 := hT2.cell 0 v rfl; have zT2 := hT2.f 0; have lT2 := hT2.lt))
  all_goals
    have hR2 := Bn.grownR hgrow (hR1.alloc (.cells #[.int .u8 (48 + q)] 5)) (own_heap (hown1.alloc (.cells #[.int .u8 (48 + q)] 5)) rfl) (by decide)
    have hU2 := Bn.grownR hgrow (hU1.alloc (.cells #[.int .u8 (48 + q)] 5)) (own_heap (hown1.alloc (.cells #[.int .u8 (48 + q)] 5)) rfl) (by decide)
    have hB2 : Below B w w2 := Below.grown (Below.drew (hB1.alloc hBsz (.cells #[.int .u8 (48 + q)] 5))) hgrow (by show B ≤ (w1.alloc (.cells #[.int .u8 (48 + q)] 5)).heap.size; simp; omega) (fun k hk => (hown1.lt k hk).1)
    have hT3 := hT2.put 0 (.slice (some ⟨gg, 0, none⟩) (n + 1) cap)
    have hR3 := hR2.far hrt 0 (.slice (some ⟨gg, 0, none⟩) (n + 1) cap)
    have hU3 := hU2.far hut 0 (.slice (some ⟨gg, 0, none⟩) (n + 1) cap)
    have hown3 := own_box (i := 0) (x := .slice (some ⟨gg, 0, none⟩) (n + 1) cap) hown2 hT2 (by decide)
    have hB3 : Below B w (w2.setCell ⟨t, 0, none⟩ (.slice (some ⟨gg, 0, none⟩) (n + 1) cap)) := hB2.setCell Bt _
    clear hT2 cT2 zT2 lT2 hgrow hat hown2 hR2 hU2 hB2 hB1 hown1 hR1 hT1 hU1 cT cR cU cTa lT ne1 ne2 hBsz hlt2
    generalize w2.setCell ⟨t, 0, none⟩ (.slice (some ⟨gg, 0, none⟩) (n + 1) cap) = w3 at *
    replace hT3 : Bn w3 t #[.slice (some ⟨gg, 0, none⟩) (n + 1) cap] 27 := hT3
    have cR3 := hR3.cell 0 (.int .u64 y) rfl
    have cU3 := hU3.cell 0 (.int .u64 unit) rfl
    have zR3 := hR3.f 0
    have lR3 := hR3.lt
    go_wp2
    go_end0
    exact ⟨rfl, _, hR3.put 0 _, hT3.far (fun k => hrt k.symm) 0 _, hU3.far (fun k => hru k.symm) 0 _, own_box hown3 hR3 (by decide), hB3.setCell Br _⟩
/-- The library's table of powers of ten. -/
def Pw (w : World) : Prop := Lib.TabIs Tryz.prog w "internal/strconv.uint64pow10" .u64 Lib.pow10Tab
theorem Pw.keep {w w' : World} (h : Pw w) (hb : Below w.heap.size w w') : Pw w' := Lib.tabBelow_of_tabIs h w' hb
theorem Bn.others {w w' : World} {b : Nat} {cs : Array Value} {t e : TypeId} (hk : Bn w b cs t) (h : Lib.OthersKept e none w w') (hne : t ≠ e) : Bn w' b cs t :=
  h b _ hk (by simp) (fun c fz k => by injection k with _ k; exact hne k)
set_option maxRecDepth 100000 in
theorem appendU_any (B n u : Nat) (hu : u < 18446744073709551616) (sv : Value) (xs : List Value) (w : World) (hown : w.ownsRow B 5 1 sv n xs) (hBw : B ≤ w.heap.size) (hlim : n + 20 ≤ 140737488355328) (hP : Pw w) :
    Calls Tryz.prog 45 #[sv, .int .u64 u, .int .i64 10] w fun e w' => ∃ v', e = .returned v' ∧ w'.ownsRow B 5 1 v' (n + (Lib.decDigits u).length) (xs ++ Lib.byteCells (Lib.decDigits u)) ∧ Below B w w' ∧ Lib.OthersKept 5 none w w' := by
  have h := Tryz.internal_strconv_AppendUint_10 B n u hu sv xs w hown hBw hlim hP
  clear hown
  go_enter Tryz.func45, Tryz.ntmps45
  go_wp2_with (go_at_call 80; refine h.mono ?_; rintro e w1 ⟨v', rfl, ho, hb, hk⟩)
  go_ret
  exact ⟨v', rfl, ho, hb, hk⟩
/-- How long the slice in a box is. -/
def mT (z : Nat) (w : World) : Nat := match w.cell? ⟨z, 0, none⟩ with | some (.slice _ n _) => n | _ => 0
theorem own_len {w : World} {base : Nat} {e : TypeId} {v : Value} {n : Nat} {xs : List Value} (h : w.ownsRow base e 1 v n xs) : ∃ a cap, v = .slice a n cap := by
  rcases h.2 with ⟨rfl, h0⟩ | ⟨g, cap, cur, rfl, _⟩
  · exact ⟨none, 0, by rw [h0]⟩
  · exact ⟨_, cap, rfl⟩
theorem own_head {w : World} {base : Nat} {e : TypeId} {v : Value} {n : Nat} {xs : List Value} (h : w.ownsRow base e 1 v n xs) (hn : 0 < n) : ∃ g cap, v = .slice (some ⟨g, 0, none⟩) n cap := by
  rcases h.2 with ⟨rfl, h0⟩ | ⟨g, cap, cur, rfl, _⟩
  · omega
  · exact ⟨g, cap, rfl⟩
theorem byteCells_snoc (T : List UInt8) (q : Nat) (h : q < 10) : Lib.byteCells T ++ [.int .u8 (48 + (q : Int))] = Lib.byteCells (T ++ [dig q]) := by
  unfold Lib.byteCells
  rw [List.map_append]
  simp only [List.map_cons, List.map_nil]
  rw [dig_toNat h]
  simp
theorem place_nums (d k p : Nat) (hk : k < d) (hp : p < 10 ^ (d - k)) : ((p * 10 ^ k : Nat) : Int) * 10 / ((10 ^ d : Nat) : Int) = ((p / 10 ^ (d - (k + 1)) : Nat) : Int) ∧ ((p * 10 ^ k : Nat) : Int) * 10 % ((10 ^ d : Nat) : Int) = ((p % 10 ^ (d - (k + 1)) * 10 ^ (k + 1) : Nat) : Int) := by
  have e1 : (10 : Nat) ^ d = 10 ^ (d - (k + 1)) * 10 ^ (k + 1) := by rw [← Nat.pow_add]; congr 1; omega
  have e2 : ((p * 10 ^ k : Nat) : Int) * 10 = ((p * 10 ^ (k + 1) : Nat) : Int) := by rw [Nat.pow_succ, ← Nat.mul_assoc]; push_cast; rfl
  have hpos : 0 < 10 ^ (k + 1) := Nat.pow_pos (by omega)
  rw [e2, e1]
  constructor
  · rw [← Int.natCast_ediv]; congr 1
    exact Nat.mul_div_mul_right _ _ hpos
  · rw [← Int.natCast_emod]; congr 1
    rw [Nat.mul_mod_mul_right]
theorem plc_step (d k p : Nat) (hk : k < d) (hp : p ≠ 0) : plc (d - k) p = dig (p / 10 ^ (d - (k + 1))) :: plc (d - (k + 1)) (p % 10 ^ (d - (k + 1))) := by
  rw [show d - k = (d - (k + 1)) + 1 by omega]
  rw [plc, if_neg hp]
theorem txt_pre (n : Int) (d : Nat) (h : n.natAbs % 10 ^ d ≠ 0) : (sgn n ++ Lib.decDigits (n.natAbs / 10 ^ d) ++ [46]) ++ plc (d - 0) (n.natAbs % 10 ^ d) = txt n d := by
  have hm : n.natAbs % 10 ^ d < 10 ^ d := Nat.mod_lt _ (Nat.pow_pos (by omega))
  have hn : plc d (n.natAbs % 10 ^ d) ≠ [] := fun k => h ((plc_nil hm).1 k)
  unfold txt pnt
  rw [if_neg hn]; simp
theorem txt_whole (n : Int) (d : Nat) (h : n.natAbs % 10 ^ d = 0) : sgn n ++ Lib.decDigits (n.natAbs / 10 ^ d) = txt n d := by
  unfold txt pnt
  rw [h, plc_zero]; simp
theorem dec_len (u : Nat) (h : u < 18446744073709551616) : (Lib.decDigits u).length ≤ 20 := by rw [Lib.decDigits_length]; exact Lib.nDigits_le20 u h
theorem txt_len (n : Int) (d : Nat) (hd : d ≤ 18) (n0 : -9223372036854775808 ≤ n) (n1 : n ≤ 9223372036854775807) : (txt n d).length ≤ 40 := by
  have h1 : (Lib.decDigits (n.natAbs / 10 ^ d)).length ≤ 20 := dec_len _ (by have := Nat.div_le_self n.natAbs (10 ^ d); omega)
  have h2 := plc_length d (n.natAbs % 10 ^ d)
  unfold txt sgn pnt
  simp only [List.length_append]
  split <;> split <;> simp <;> omega
end Go.Proofs.YtpjkdgdgjlldfaaGreatDoor
