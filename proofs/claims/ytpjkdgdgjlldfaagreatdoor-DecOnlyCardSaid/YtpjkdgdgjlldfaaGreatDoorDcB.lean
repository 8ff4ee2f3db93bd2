/-
  Package dec: boxes; a text taken apart.
-/
import Derived.Test.YtpjkdgdgjlldfaaGreatDoorDcA
import Derived.Test.YtpjkdgdgjlldfaaGreatDoorShelfE
import Derived.WalkSpells
import Derived.WalkLawsBesides
import Derived.Deep.RegionHeld3
import Derived.Deep.Cut
import Derived.BigRegion
import Derived.IntWalk
namespace Go.Proofs.YtpjkdgdgjlldfaaGreatDoor
open Go.RowKit

theorem dkeep {w w' : World} {p : Addr} {v : Value} (hb : Below w.heap.size w w') (h : w.cell? p = some v) : w'.cell? p = some v :=
  (hb.cell (World.block_lt_of_cell? w _ h)).trans h

theorem dfrz {w w' : World} {b o : Nat} (hb : Below w.heap.size w w') (hl : b < w.heap.size) (h : w.frozen? ⟨b, o, none⟩ = false) : w'.frozen? ⟨b, o, none⟩ = false :=
  (hb.frozen (p := ⟨b, o, none⟩) hl).trans h
theorem vUndrew {w w' : World} (h : Below w.drew.heap.size w.drew w') : Below w.heap.size w w' := (Below.refl w.heap.size w).drew.trans h
theorem cellDrewI {w : World} {p : Addr} {v : Value} (h : w.cell? p = some v) : w.drew.cell? p = some v := h
theorem heapNew (w : World) (o : Obj) : (w.alloc o).heap[w.heap.size]? = some o := by
  show (w.heap.push o)[w.heap.size]? = _
  simp
/-- Block g is a box. -/
def Bn (w : World) (g : Nat) (xs : Array Value) (t : TypeId) : Prop := w.heap[g]? = some (.cells xs t (0, 0))
theorem Bn.new (w : World) (xs : Array Value) (t : TypeId) : Bn (w.alloc (.cells xs t)) w.heap.size xs t := heapNew w _
theorem Bn.lt {w : World} {g : Nat} {xs : Array Value} {t : TypeId} (h : Bn w g xs t) : g < w.heap.size := (Array.getElem?_eq_some_iff.1 h).1
theorem Bn.keep {w w' : World} {g : Nat} {xs : Array Value} {t : TypeId} (h : Bn w g xs t) (hb : Below w.heap.size w w') : Bn w' g xs t := by
  have hl := h.lt
  unfold Bn at *
  rw [hb.block g hl]; exact h
theorem Bn.alloc {w : World} {g : Nat} {xs : Array Value} {t : TypeId} (h : Bn w g xs t) (o : Obj) : Bn (w.alloc o) g xs t := h.keep ((Below.refl _ _).alloc (Nat.le_refl _) o)
theorem Bn.drewI {w : World} {g : Nat} {xs : Array Value} {t : TypeId} (h : Bn w g xs t) : Bn w.drew g xs t := h
theorem Bn.cell {w : World} {g : Nat} {xs : Array Value} {t : TypeId} (h : Bn w g xs t) (i : Nat) (x : Value) (hx : xs[i]? = some x) : w.cell? ⟨g, i, none⟩ = some x := by
  rw [cell_of_row w g i xs t (0, 0) h]; exact hx
theorem Bn.f {w : World} {g : Nat} {xs : Array Value} {t : TypeId} (h : Bn w g xs t) (i : Nat) : w.frozen? ⟨g, i, none⟩ = false := frozen_of_row w g i xs t h
/-- Every block but c is as it was. -/
structure Ke (c : Nat) (w w' : World) : Prop where
  os : w'.os = w.os
  tape : w'.tape = w.tape
  output : w'.output = w.output
  size : w.heap.size ≤ w'.heap.size
  block : ∀ k, k < w.heap.size → k ≠ c → w'.heap[k]? = w.heap[k]?
theorem Ke.refl (c : Nat) (w : World) : Ke c w w := ⟨rfl, rfl, rfl, Nat.le_refl _, fun _ _ _ => rfl⟩
theorem Ke.trans {c : Nat} {u v w : World} (h : Ke c u v) (k : Ke c v w) : Ke c u w :=
  ⟨k.os.trans h.os, k.tape.trans h.tape, k.output.trans h.output, Nat.le_trans h.size k.size, fun i hi hn => (k.block i (Nat.lt_of_lt_of_le hi h.size) hn).trans (h.block i hi hn)⟩
theorem Ke.of {c : Nat} {w w' : World} (h : Below w.heap.size w w') : Ke c w w' := ⟨h.os, h.tape, h.output, h.size, fun k hk _ => h.block k hk⟩
theorem Ke.set (w : World) (c o : Nat) (u : Value) : Ke c w (w.setCell ⟨c, o, none⟩ u) :=
  ⟨rfl, rfl, rfl, by simp [World.setCell], fun k _ hn => Below.heap_setCell _ _ _ _ hn⟩
/-- Where the calculator is the call's own. -/
theorem Ke.below {c B : Nat} {v w w' : World} (h : Ke c w w') (hB : Below B v w) (hc : B ≤ c) (hs : B ≤ w.heap.size) : Below B v w' :=
  hB.trans ⟨h.os, h.tape, h.output, h.size, fun k hk => h.block k (by omega) (by omega)⟩
theorem Ke.cellK {c : Nat} {w w' : World} (h : Ke c w w') {p : Addr} {x : Value} (hc : w.cell? p = some x) (hn : p.block ≠ c) : w'.cell? p = some x :=
  (World.cell?_of_block (w := w) (h.block p.block (World.block_lt_of_cell? w p hc) hn)).trans hc
theorem Ke.put {c g : Nat} {w u : World} (h : Ke c w u) (hg : w.heap.size ≤ g) (o : Nat) (x : Value) : Ke c w (u.setCell ⟨g, o, none⟩ x) :=
  ⟨h.os, h.tape, h.output, by rw [World.size_setCell]; exact h.size, fun k hk hn => (Below.heap_setCell u ⟨g, o, none⟩ x k (by show k ≠ g; omega)).trans (h.block k hk hn)⟩
theorem Ke.alloc {c : Nat} {w u : World} (h : Ke c w u) (o : Obj) : Ke c w (u.alloc o) := h.trans (Ke.of ((Below.refl _ _).alloc (Nat.le_refl _) o))
theorem Ke.drewI {c : Nat} {w u : World} (h : Ke c w u) : Ke c w u.drew := ⟨h.os, h.tape, h.output, h.size, h.block⟩
theorem Ke.thenB {c : Nat} {w u v : World} (h : Ke c w u) (hb : Below u.heap.size u v) : Ke c w v := h.trans (Ke.of hb)
theorem Bn.far {w : World} {g h : Nat} {xs : Array Value} {t : TypeId} (k : Bn w h xs t) (hn : h ≠ g) (o : Nat) (x : Value) : Bn (w.setCell ⟨g, o, none⟩ x) h xs t := by
  unfold Bn at *
  rw [Below.heap_setCell w ⟨g, o, none⟩ x h hn]; exact k
theorem Bn.ke {w w' : World} {g c : Nat} {xs : Array Value} {t : TypeId} (h : Bn w g xs t) (hn : g ≠ c) (k : Ke c w w') : Bn w' g xs t := by
  have hl := h.lt
  unfold Bn at *
  rw [k.block g hl hn]; exact h

theorem Bn.put {w : World} {g : Nat} {xs : Array Value} {t : TypeId} (h : Bn w g xs t) (i : Nat) (v : Value) : Bn (w.setCell ⟨g, i, none⟩ v) g (xs.setIfInBounds i v) t := by
  have := heap_setCell_same w g i _ t v h
  unfold Bn
  rw [this]
theorem Bn.put3 {w : World} {g : Nat} {a b c : Value} {t : TypeId} (h : Bn w g #[a, b, c] t) (x y z : Value) : Bn (((w.setCell ⟨g, 0, none⟩ x).setCell ⟨g, 1, none⟩ y).setCell ⟨g, 2, none⟩ z) g #[x, y, z] t := ((h.put 0 x).put 1 y).put 2 z
theorem Bn.far3 {w : World} {g h : Nat} {xs : Array Value} {t : TypeId} (k : Bn w h xs t) (hn : h ≠ g) (x y z : Value) : Bn (((w.setCell ⟨g, 0, none⟩ x).setCell ⟨g, 1, none⟩ y).setCell ⟨g, 2, none⟩ z) h xs t := ((k.far hn 0 x).far hn 1 y).far hn 2 z
theorem below3 {B g : Nat} {v w : World} (h : Below B v w) (hg : B ≤ g) (x y z : Value) : Below B v (((w.setCell ⟨g, 0, none⟩ x).setCell ⟨g, 1, none⟩ y).setCell ⟨g, 2, none⟩ z) := ((h.setCell hg x).setCell hg y).setCell hg z

/-! ### strings of bytes -/
def bs (l : List UInt8) : ByteArray := ⟨⟨l⟩⟩
theorem bs_size (l : List UInt8) : (bs l).size = l.length := rfl
theorem bs_list (l : List UInt8) : (bs l).data.toList = l := rfl
theorem bs_toList (l : List UInt8) : (bs l).toList = l := ByteArray.toList_mk l
theorem bs_extract (l : List UInt8) (a b : Nat) : (bs l).extract a b = bs ((l.drop a).take (b - a)) := ByteArray.extract_mk l a b
theorem bs_get (l : List UInt8) (i : Nat) (h : i < (bs l).size) : ((bs l)[i]'h).toNat = (l.getD i 0).toNat := by rw [get_byt]; rfl
/-- What a text is cut into. -/
def sgl (l : List UInt8) : List UInt8 := if l.head? = some 45 then [45] else []
theorem sgl_body (l : List UInt8) : l = sgl l ++ body l := by
  unfold sgl body
  cases l with
  | nil => rfl
  | cons a s =>
    by_cases c : (a :: s).head? = some 45
    · rw [if_pos c, if_pos c]; simp at c; subst c; rfl
    · rw [if_neg c, if_neg c]; rfl
theorem prefix_one (l : List UInt8) (c : UInt8) : Lib.hasPrefix l [c] = decide (l.head? = some c) := by
  unfold Lib.hasPrefix
  cases l with
  | nil => rfl
  | cons a s =>
    simp only [List.isPrefixOf, List.head?_cons, Bool.and_true]
    by_cases h : c = a
    · subst h; simp
    · have h' : ¬ a = c := fun e => h e.symm
      simp [h, h']
theorem trim_one (l : List UInt8) (c : UInt8) : Lib.trimPrefix l [c] = if l.head? = some c then l.tail else l := by
  unfold Lib.trimPrefix
  rw [prefix_one]
  by_cases h : l.head? = some c
  · rw [if_pos (by simpa using h), if_pos h]; simp
  · rw [if_neg (by simpa using h), if_neg h]
theorem suffix_one (l : List UInt8) (c : UInt8) : Lib.hasSuffix l [c] = decide (l.getLast? = some c) := by
  unfold Lib.hasSuffix List.isSuffixOf
  rw [← List.head?_reverse]
  exact prefix_one l.reverse c

set_option maxRecDepth 100000 in
set_option maxHeartbeats 4000000 in
theorem split_any (l : List UInt8) (w : World) (hl : l.length ≤ 1000000) :
    Calls Tryz.prog 29 #[.string (bs l)] w fun e w' => (∃ x0 x1 x2 : List UInt8, ∃ ok : Bool, e = .returned (.tuple #[.agg #[.string (bs x0), .string (bs x1), .string (bs x2)], .bool ok]) ∧ Hid (spl l = if ok then some (x0, x1, x2) else none)) ∧ Below w.heap.size w w' := by
  have hcut : ∀ w, Calls Tryz.prog 64 #[.string (bs l), .string ⟨#[45]⟩] w fun e w' => e = .returned (.tuple #[.string (bs (body l)), .bool (decide (l.head? = some 45))]) ∧ w' = w := fun w => by
    have h := Tryz.strings_CutPrefix (bs l) ⟨#[45]⟩ w
    rw [show ((⟨#[45]⟩ : ByteArray).data.toList) = [45] from rfl, bs_list, prefix_one, trim_one] at h
    exact h
  have hb : body l = if l.head? = some 45 then l.tail else l := rfl
  have hbl : (sgl l).length + (body l).length = l.length := by
    have := congrArg List.length (sgl_body l); rw [List.length_append] at this; omega
  have h1 : (bs l).extract 0 (sgl l).length = bs (sgl l) := by
    rw [bs_extract]; congr 1
    have e := sgl_body l
    generalize sgl l = x at *
    generalize body l = y at *
    subst e; simp
  have hle := fun w => leading_any (bs (body l)) w (by rw [bs_size]; omega)
  rw [bs_list] at hle
  obtain ⟨hw1, hw2⟩ := takeWhile_isD (body l)
  obtain ⟨wh, hwh⟩ : ∃ wh, (body l).takeWhile isD = wh := ⟨_, rfl⟩
  obtain ⟨re, hre⟩ : ∃ re, (body l).dropWhile isD = re := ⟨_, rfl⟩
  have hspl : Hid (spl l = if wh = [] ∨ (wh.head? = some 48 ∧ wh ≠ [48]) then none
    else if re = [] then (if sgl l = [] ∨ wh ≠ [48] then some (sgl l, wh, []) else none)
    else if re.head? ≠ some 46 ∨ re.tail = [] ∨ re.tail.takeWhile isD ≠ re.tail ∨ re.tail.getLast? = some 48 then none
    else some (sgl l, wh, re.tail)) := Lib.hid (by rw [← hwh, ← hre]; rfl)
  rw [hwh] at hle hw1 hw2
  rw [hre] at hw2
  have h2 : (bs (body l)).extract 0 wh.length = bs wh := by
    rw [bs_extract, ← hw2]; congr 1; simp
  have h3 : (bs (body l)).extract wh.length (body l).length = bs re := by
    rw [bs_extract]; congr 1
    conv => lhs; rw [← hw2]
    simp
  have hwl : wh.length + re.length = (body l).length := by rw [← hw2]; simp
  have hng : Hid (decide (l.head? = some 45) = true ↔ sgl l ≠ []) := Lib.hid (by unfold sgl; by_cases c : l.head? = some 45 <;> simp [c])
  have s1 : (bs l).size = l.length := rfl
  have s2 : (bs (body l)).size = (body l).length := rfl
  have s3 : (bs wh).size = wh.length := rfl
  have s4 : (bs re).size = re.length := rfl
  clear hwh hre hb
  generalize hsg : sgl l = sg at *
  generalize hbo : body l = bo at *
  generalize hneg : decide (l.head? = some 45) = neg at *
  clear hw2 hsg hbo hneg
  obtain ⟨n, hn⟩ : ∃ n : Nat, l.length = n := ⟨_, rfl⟩
  obtain ⟨m, hm⟩ : ∃ m : Nat, bo.length = m := ⟨_, rfl⟩
  obtain ⟨k, hk⟩ : ∃ k : Nat, wh.length = k := ⟨_, rfl⟩
  have hsl : sg.length = n - m := by omega
  rw [hsl] at h1
  rw [hm, hk] at h3
  rw [hk] at h2 hle s3
  rw [hn] at s1 hl
  rw [hm] at s2
  have hj : ((n : Int) - (m : Int)).toNat = n - m := by omega
  have i1 : (0 : Int) ≤ (n : Int) - (m : Int) := by omega
  have i2 : (n : Int) - (m : Int) ≤ (n : Int) := by omega
  have i3 : (0 : Int) ≤ (k : Int) := by omega
  have i4 : (k : Int) ≤ (m : Int) := by omega
  have i5 : IntKind.i64.wrap ((n : Int) - (m : Int)) = (n : Int) - (m : Int) := IntWalk.i64_in _ (by omega)
  have hnm : m ≤ n := by omega
  have hkm : k ≤ m := by omega
  have bZ := Bn.new w #[.string ⟨#[]⟩, .string ⟨#[]⟩, .string ⟨#[]⟩] 61
  have hB : Below w.heap.size w (w.alloc (.cells #[.string ⟨#[]⟩, .string ⟨#[]⟩, .string ⟨#[]⟩] 61)) := by (repeat (first | with_reducible exact Below.refl _ _ | with_reducible assumption | refine Below.alloc ?_ (by (try simp); try omega) _ | refine Below.setCell ?_ (by (try simp); try omega) _ | refine below_drewN ?_ _ | refine Below.drew ?_ | (with_reducible refine Below.trans ?_ (Below.mono (by assumption) (by (try simp); try omega)))))
  go_enter Tryz.func29, Tryz.ntmps29
  go_wp2_with (go_at_call 64; (with_reducible refine (hcut _).mono ?_); rintro e w1 ⟨rfl, rfl⟩)
  have ubZ := bZ.lt
  generalize hv : w.alloc (.cells #[.string ⟨#[]⟩, .string ⟨#[]⟩, .string ⟨#[]⟩] 61) = v1 at *
  clear hv hcut
  generalize hz : w.heap.size = z at *
  go_cut [6] from 10 (fun v6 wx => ∃ x : Nat, v6 = .pointer (some ⟨x, 0, none⟩) ∧ Bn wx x #[.string (bs sg), .string (bs wh), .string ⟨#[]⟩] 61 ∧ Bn wx z #[.string ⟨#[]⟩, .string ⟨#[]⟩, .string ⟨#[]⟩] 61 ∧ z < x ∧ Below z w wx)
  case first =>
    go_region_held3 (fun _ => True) (trivial)
      (first | (go_at_call 65; (with_reducible refine (hle _).mono ?_); rintro rr uz ⟨rfl, hb⟩; (with_reducible (first | (replace hb := vUndrew (vUndrew hb)) | (replace hb := vUndrew hb) | skip)); replace bZ := bZ.keep (w' := uz) (by (repeat (first | with_reducible exact Below.refl _ _ | with_reducible assumption | refine Below.alloc ?_ (by (try simp); try omega) _ | refine Below.setCell ?_ (by (try simp); try omega) _ | refine below_drewN ?_ _ | refine Below.drew ?_ | (with_reducible refine Below.trans ?_ (Below.mono (by assumption) (by (try simp); try omega)))))); have lz := hb.size; (first | (have nb := Bn.keep (Bn.new _ _ _) hb) | skip); (first | (have nb0 := nb.cell 0 _ rfl; have nb1 := nb.cell 1 _ rfl; have nb2 := nb.cell 2 _ rfl; have nf0 := nb.f 0; have nf1 := nb.f 1; have nf2 := nb.f 2; have nbl := nb.lt) | skip); have hB2 : Below z w uz := (by (repeat (first | with_reducible exact Below.refl _ _ | with_reducible assumption | refine Below.alloc ?_ (by (try simp); try omega) _ | refine Below.setCell ?_ (by (try simp); try omega) _ | refine below_drewN ?_ _ | refine Below.drew ?_ | (with_reducible refine Below.trans ?_ (Below.mono (by assumption) (by (try simp); try omega)))))); clear hB; have hB := hB2; clear hB2))
    all_goals (go_wp2_with fail; go_meet)
    all_goals first | exact ⟨_, rfl, Bn.new _ _ _, bZ.alloc _, by omega, by (repeat (first | with_reducible exact Below.refl _ _ | with_reducible assumption | refine Below.alloc ?_ (by (try simp); try omega) _ | refine Below.setCell ?_ (by (try simp); try omega) _ | refine below_drewN ?_ _ | refine Below.drew ?_ | (with_reducible refine Below.trans ?_ (Below.mono (by assumption) (by (try simp); try omega)))))⟩ | exact ⟨_, rfl, nb.put3 _ _ _, bZ.far3 (by omega) _ _ _, by omega, below3 hB (by omega) _ _ _⟩
  case rest =>
    clear bZ hB ubZ hle h1 h2 i1 i2 i5 hj
    obtain ⟨x, rfl, bX, bZ, hzx, hB⟩ := hcut
    have cX0 := bX.cell 0 (.string (bs sg)) rfl
    have cX1 := bX.cell 1 (.string (bs wh)) rfl
    have cX2 := bX.cell 2 (.string ⟨#[]⟩) rfl
    have kX := bX.lt
    have cZ0 := bZ.cell 0 (.string ⟨#[]⟩) rfl
    have cZ1 := bZ.cell 1 (.string ⟨#[]⟩) rfl
    have cZ2 := bZ.cell 2 (.string ⟨#[]⟩) rfl
    have zZ0 := bZ.f 0
    have zZ1 := bZ.f 1
    have zZ2 := bZ.f 2
    have kZ := bZ.lt
    have t0 : (⟨#[]⟩ : ByteArray).toList = [] := ByteArray.toList_mk []
    have t48 : (⟨#[48]⟩ : ByteArray).toList = [48] := ByteArray.toList_mk [48]
    have t1 := bs_toList wh
    have t2 := bs_toList re
    have hxz : x ≠ z := by omega
    have hzx' : z ≠ x := by omega
    obtain ⟨v2, hv2⟩ : ∃ v2, v2 = wc := ⟨_, rfl⟩
    subst hv2
    go_upto_region 4 with fail
    by_cases w0 : wh = []
    · have hs : spl l = none := by rw [hspl.out, if_pos (Or.inl w0)]
      have q1 : (wh == []) = true := by simp [w0]
      clear hspl w0
      go_wp2
      refine bodyPost_ret (v := .tuple #[.agg #[.string (bs []), .string (bs []), .string (bs [])], .bool false]) (by simp [results, Tryz.results29, go_sem, cZ0, cZ1, cZ2, zZ0, zZ1, zZ2, kZ]; try rfl) rfl ⟨⟨[], [], [], false, rfl, Lib.hid hs⟩, ?_⟩
      subst hz
      exact below3 hB (Nat.le_refl _) _ _ _
    have k1 : 1 ≤ k := by
      rw [← hk]; exact Nat.pos_of_ne_zero (fun e => w0 (List.length_eq_zero_iff.1 e))
    have q1 : (wh == []) = false := by simp [w0]
    have hidx : ∀ w : World, (Instr.index 9 (.string (bs wh)) (.int .i64 0)).run Tryz.prog w = .ok (.int .u8 ((wh.getD 0 0).toNat : Int)) w := fun w => by
      rw [run_index_string (h := Tryz.underlying9), dif_pos (by rw [s3]; omega), bs_get wh _ _]
      rfl
    have hhd : wh.head? = some 48 ↔ wh.getD 0 0 = 48 := by
      cases wh with
      | nil => exact absurd rfl w0
      | cons a r => simp
    by_cases bad : wh.head? = some 48 ∧ wh ≠ [48]
    · have hs : spl l = none := by rw [hspl.out, if_pos (Or.inr bad)]
      have q3 : (wh == [48]) = false := by simp [bad.2]
      have c48 : ((wh.getD 0 0).toNat : Int) = 48 := by rw [hhd.1 bad.1]; rfl
      rw [c48] at hidx
      clear hspl w0 bad hhd c48
      go_wp2
      refine bodyPost_ret (v := .tuple #[.agg #[.string (bs []), .string (bs []), .string (bs [])], .bool false]) (by simp [results, Tryz.results29, go_sem, cZ0, cZ1, cZ2, zZ0, zZ1, zZ2, kZ]; try rfl) rfl ⟨⟨[], [], [], false, rfl, Lib.hid hs⟩, ?_⟩
      subst hz
      exact below3 hB (Nat.le_refl _) _ _ _
    go_cut [7, 45] from 10 to 82 (fun v7 v45 wx => v7 = .string (bs re) ∧ v45 = .bool false ∧ wx = v2)
    case first =>
      by_cases c : wh.getD 0 0 = 48
      · have e : wh = [48] := by
          apply Classical.byContradiction; intro k; exact bad ⟨hhd.2 c, k⟩
        have q3 : (wh == [48]) = true := by simp [e]
        have c48 : ((wh.getD 0 0).toNat : Int) = 48 := by rw [c]; rfl
        rw [c48] at hidx
        clear hspl w0 bad hhd c48 c e
        go_wp2
        go_meet
        exact ⟨rfl, rfl, rfl⟩
      · have cne : ((wh.getD 0 0).toNat : Int) ≠ 48 := by
          intro e; apply c; apply UInt8.toNat_inj.mp; have : (48 : UInt8).toNat = 48 := rfl; omega
        have cne2 : (((wh.getD 0 0).toNat : Int) == 48) = false := beq_eq_false_iff_ne.2 cne
        generalize ((wh.getD 0 0).toNat : Int) = c0 at *
        clear hspl w0 bad hhd c
        go_wp2
        go_meet
        exact ⟨rfl, rfl, rfl⟩
    case rest =>
      obtain ⟨rfl, rfl, rfl⟩ := hcut
      have hspl2 : Hid (spl l = if re = [] then (if sg = [] ∨ wh ≠ [48] then some (sg, wh, []) else none) else if re.head? ≠ some 46 ∨ re.tail = [] ∨ re.tail.takeWhile isD ≠ re.tail ∨ re.tail.getLast? = some 48 then none else some (sg, wh, re.tail)) := Lib.hid (by
        rw [hspl.out, if_neg (fun k => k.elim w0 bad)])
      clear hspl hidx q1 bad hhd k1 w0
      go_upto_region 6 with fail
      by_cases r0 : re = []
      · have q2 : (re == []) = true := by simp [r0]
        have hs2 : Hid (spl l = if sg = [] ∨ wh ≠ [48] then some (sg, wh, []) else none) := Lib.hid (by rw [hspl2.out, if_pos r0])
        clear hspl2 r0
        by_cases w1 : wh = [48]
        · have q3 : (wh == [48]) = true := by simp [w1]
          cases neg
          · have hs : Hid (spl l = some (sg, wh, [])) := Lib.hid (by
              rw [hs2.out, if_pos (Or.inl (by apply Classical.byContradiction; intro k; exact absurd (hng.out.2 k) (by simp)))])
            clear hs2 hng w1
            go_wp2_with fail
            go_big_region
            go_wp2
            refine bodyPost_ret (v := .tuple #[.agg #[.string (bs sg), .string (bs wh), .string (bs [])], .bool true]) (by simp [results, Tryz.results29, go_sem, cZ0, cZ1, cZ2, zZ0, zZ1, zZ2, kZ]; try rfl) rfl ⟨⟨sg, wh, [], true, rfl, Lib.hid hs.out⟩, ?_⟩
            subst hz
            exact (below3 hB (Nat.le_refl _) _ _ _).drew
          · have hs : Hid (spl l = none) := Lib.hid (by
              rw [hs2.out, if_neg (fun k => k.elim (hng.out.1 rfl) (fun k => k w1))])
            clear hs2 hng w1
            go_wp2_with fail
            go_big_region
            go_wp2
            refine bodyPost_ret (v := .tuple #[.agg #[.string (bs sg), .string (bs wh), .string (bs [])], .bool false]) (by simp [results, Tryz.results29, go_sem, cZ0, cZ1, cZ2, zZ0, zZ1, zZ2, kZ]; try rfl) rfl ⟨⟨sg, wh, [], false, rfl, Lib.hid hs.out⟩, ?_⟩
            subst hz
            exact (below3 hB (Nat.le_refl _) _ _ _).drew
        · have q3 : (wh == [48]) = false := by simp [w1]
          have hs : Hid (spl l = some (sg, wh, [])) := Lib.hid (by rw [hs2.out, if_pos (Or.inr w1)])
          clear hs2 hng w1
          cases neg
          all_goals
            go_wp2_with fail
            go_big_region
            go_wp2
            refine bodyPost_ret (v := .tuple #[.agg #[.string (bs sg), .string (bs wh), .string (bs [])], .bool true]) (by simp [results, Tryz.results29, go_sem, cZ0, cZ1, cZ2, zZ0, zZ1, zZ2, kZ]; try rfl) rfl ⟨⟨sg, wh, [], true, rfl, Lib.hid hs.out⟩, ?_⟩
            subst hz
            exact (below3 hB (Nat.le_refl _) _ _ _).drew
      · have q2 : (re == []) = false := by simp [r0]
        have hs2 : Hid (spl l = if re.head? ≠ some 46 ∨ re.tail = [] ∨ re.tail.takeWhile isD ≠ re.tail ∨ re.tail.getLast? = some 48 then none else some (sg, wh, re.tail)) := Lib.hid (by rw [hspl2.out, if_neg r0])
        have hcut2 : ∀ w, Calls Tryz.prog 64 #[.string (bs re), .string ⟨#[46]⟩] w fun e w' => e = .returned (.tuple #[.string (bs (if re.head? = some 46 then re.tail else re)), .bool (decide (re.head? = some 46))]) ∧ w' = w := fun w => by
          have h := Tryz.strings_CutPrefix (bs re) ⟨#[46]⟩ w
          rw [show ((⟨#[46]⟩ : ByteArray).data.toList) = [46] from rfl, bs_list, prefix_one, trim_one] at h
          exact h
        have zX2 := bX.f 2
        clear hng hspl2
        by_cases d1 : re.head? = some 46
        · rw [if_pos d1, decide_eq_true d1] at hcut2
          obtain ⟨pl, hpl⟩ : ∃ pl, re.tail = pl := ⟨_, rfl⟩
          have hpn : pl.length ≤ re.length := by rw [← hpl]; simp
          rw [hpl] at hcut2 hs2
          have t3 := bs_toList pl
          by_cases d2 : pl = []
          · have q4 : (pl == []) = true := by simp [d2]
            have hs : spl l = none := by rw [hs2.out, if_pos (Or.inr (Or.inl d2))]
            clear hs2 d1 d2 hpl r0 hpn
            go_wp2_with (go_at_call 64; (with_reducible refine (hcut2 _).mono ?_); rintro rr uc ⟨rfl, rfl⟩)
            refine bodyPost_ret (v := .tuple #[.agg #[.string (bs []), .string (bs []), .string (bs [])], .bool false]) (by simp [results, Tryz.results29, go_sem, cZ0, cZ1, cZ2, zZ0, zZ1, zZ2, kZ]; try rfl) rfl ⟨⟨[], [], [], false, rfl, Lib.hid hs⟩, ?_⟩
            subst hz
            exact below3 hB (Nat.le_refl _) _ _ _
          · have q4 : (pl == []) = false := by simp [d2]
            have hle2 := fun w => leading_any (bs pl) w (by rw [bs_size]; omega)
            rw [bs_list] at hle2
            have s5 : (bs pl).size = pl.length := rfl
            have htw := (takeWhile_isD pl).2
            by_cases d3 : pl.takeWhile isD = pl
            · rw [d3] at hle2
              have hsuf : ∀ w, Calls Tryz.prog 23 #[.string (bs pl), .string ⟨#[48]⟩] w fun e w' => e = .returned (.bool (decide (pl.getLast? = some 48))) ∧ w' = w := fun w => by
                have h := Tryz.strings_HasSuffix (bs pl) ⟨#[48]⟩ w (by rw [bs_size]; omega)
                rw [show ((⟨#[48]⟩ : ByteArray).data.toList) = [48] from rfl, bs_list, suffix_one] at h
                exact h
              by_cases d4 : pl.getLast? = some 48
              · rw [decide_eq_true d4] at hsuf
                have hs : spl l = none := by rw [hs2.out, if_pos (Or.inr (Or.inr (Or.inr d4)))]
                clear hs2 d1 d2 hpl r0 hpn d3 d4 htw
                generalize pl.length = p2 at *
                go_wp2_with (first | (go_at_call 64; (with_reducible refine (hcut2 _).mono ?_); rintro rr uc ⟨rfl, rfl⟩) | (go_at_call 65; (with_reducible refine (hle2 _).mono ?_); rintro rr uz ⟨rfl, hb⟩; (with_reducible (first | (replace hb := vUndrew hb) | skip)); replace bX := bX.keep hb; replace bZ := bZ.keep hb; replace hB := hB.trans (hb.mono (by have := hB.size; omega)); clear hb cX0 cX1 cX2 kX zX2 cZ0 cZ1 cZ2 zZ0 zZ1 zZ2 kZ; have cX0 := bX.cell 0 (.string (bs sg)) rfl; have cX1 := bX.cell 1 (.string (bs wh)) rfl; have cX2 := bX.cell 2 (.string ⟨#[]⟩) rfl; have kX := bX.lt; have zX2 := bX.f 2; have cZ0 := bZ.cell 0 (.string ⟨#[]⟩) rfl; have zZ0 := bZ.f 0; have cZ1 := bZ.cell 1 (.string ⟨#[]⟩) rfl; have zZ1 := bZ.f 1; have cZ2 := bZ.cell 2 (.string ⟨#[]⟩) rfl; have zZ2 := bZ.f 2; have kZ := bZ.lt) | (go_at_call 23; (with_reducible refine (hsuf _).mono ?_); rintro rr uc ⟨rfl, rfl⟩))
                refine bodyPost_ret (v := .tuple #[.agg #[.string (bs []), .string (bs []), .string (bs [])], .bool false]) (by simp [results, Tryz.results29, go_sem, cZ0, cZ1, cZ2, zZ0, zZ1, zZ2, kZ]; try rfl) rfl ⟨⟨[], [], [], false, rfl, Lib.hid hs⟩, ?_⟩
                subst hz
                exact below3 hB (Nat.le_refl _) _ _ _
              · rw [decide_eq_false d4] at hsuf
                have hs : spl l = some (sg, wh, pl) := by
                  rw [hs2.out, if_neg]
                  rintro (k | k | k | k)
                  · exact k d1
                  · exact d2 k
                  · exact k d3
                  · exact d4 k
                clear hs2 d1 d2 hpl r0 hpn d3 d4 htw
                generalize pl.length = p2 at *
                go_wp2_with (first | (go_at_call 64; (with_reducible refine (hcut2 _).mono ?_); rintro rr uc ⟨rfl, rfl⟩) | (go_at_call 65; (with_reducible refine (hle2 _).mono ?_); rintro rr uz ⟨rfl, hb⟩; (with_reducible (first | (replace hb := vUndrew hb) | skip)); replace bX := bX.keep hb; replace bZ := bZ.keep hb; replace hB := hB.trans (hb.mono (by have := hB.size; omega)); clear hb cX0 cX1 cX2 kX zX2 cZ0 cZ1 cZ2 zZ0 zZ1 zZ2 kZ; have cX0 := bX.cell 0 (.string (bs sg)) rfl; have cX1 := bX.cell 1 (.string (bs wh)) rfl; have cX2 := bX.cell 2 (.string ⟨#[]⟩) rfl; have kX := bX.lt; have zX2 := bX.f 2; have cZ0 := bZ.cell 0 (.string ⟨#[]⟩) rfl; have zZ0 := bZ.f 0; have cZ1 := bZ.cell 1 (.string ⟨#[]⟩) rfl; have zZ1 := bZ.f 1; have cZ2 := bZ.cell 2 (.string ⟨#[]⟩) rfl; have zZ2 := bZ.f 2; have kZ := bZ.lt) | (go_at_call 23; (with_reducible refine (hsuf _).mono ?_); rintro rr uc ⟨rfl, rfl⟩))
                refine bodyPost_ret (v := .tuple #[.agg #[.string (bs sg), .string (bs wh), .string (bs pl)], .bool true]) (by simp [results, Tryz.results29, go_sem, cZ0, cZ1, cZ2, zZ0, zZ1, zZ2, kZ, hxz, hzx', cX0, cX1, cX2, zX2, kX]; try rfl) rfl ⟨⟨sg, wh, pl, true, rfl, Lib.hid hs⟩, ?_⟩
                subst hz
                exact below3 (hB.setCell (by show _ ≤ x; omega) _) (Nat.le_refl _) _ _ _
            · have hs : spl l = none := by rw [hs2.out, if_pos (Or.inr (Or.inr (Or.inl d3)))]
              have hne : (pl.takeWhile isD).length ≠ pl.length := by
                intro k
                apply d3
                have e := congrArg List.length htw
                rw [List.length_append] at e
                have e0 : pl.dropWhile isD = [] := List.length_eq_zero_iff.1 (by omega)
                rw [e0, List.append_nil] at htw; exact htw
              clear hs2 d1 d2 hpl r0 hpn d3 htw
              generalize (pl.takeWhile isD).length = k2 at *
              generalize pl.length = p2 at *
              have hne1 : ((k2 : Int) == (p2 : Int)) = false := beq_eq_false_iff_ne.2 (by omega)
              have hne2 : ¬ (k2 : Int) = (p2 : Int) := by omega
              go_wp2_with (first | (go_at_call 64; (with_reducible refine (hcut2 _).mono ?_); rintro rr uc ⟨rfl, rfl⟩) | (go_at_call 65; (with_reducible refine (hle2 _).mono ?_); rintro rr uz ⟨rfl, hb⟩; (with_reducible (first | (replace hb := vUndrew hb) | skip)); replace bX := bX.keep hb; replace bZ := bZ.keep hb; replace hB := hB.trans (hb.mono (by have := hB.size; omega)); clear hb cX0 cX1 cX2 kX zX2 cZ0 cZ1 cZ2 zZ0 zZ1 zZ2 kZ; have cX0 := bX.cell 0 (.string (bs sg)) rfl; have cX1 := bX.cell 1 (.string (bs wh)) rfl; have cX2 := bX.cell 2 (.string ⟨#[]⟩) rfl; have kX := bX.lt; have zX2 := bX.f 2; have cZ0 := bZ.cell 0 (.string ⟨#[]⟩) rfl; have zZ0 := bZ.f 0; have cZ1 := bZ.cell 1 (.string ⟨#[]⟩) rfl; have zZ1 := bZ.f 1; have cZ2 := bZ.cell 2 (.string ⟨#[]⟩) rfl; have zZ2 := bZ.f 2; have kZ := bZ.lt))
              refine bodyPost_ret (v := .tuple #[.agg #[.string (bs []), .string (bs []), .string (bs [])], .bool false]) (by simp [results, Tryz.results29, go_sem, cZ0, cZ1, cZ2, zZ0, zZ1, zZ2, kZ]; try rfl) rfl ⟨⟨[], [], [], false, rfl, Lib.hid hs⟩, ?_⟩
              subst hz
              exact below3 hB (Nat.le_refl _) _ _ _
        · rw [if_neg d1, decide_eq_false d1] at hcut2
          have hs : spl l = none := by rw [hs2.out, if_pos (Or.inl d1)]
          clear hs2 d1 r0
          go_wp2_with (go_at_call 64; (with_reducible refine (hcut2 _).mono ?_); rintro rr uc ⟨rfl, rfl⟩)
          refine bodyPost_ret (v := .tuple #[.agg #[.string (bs []), .string (bs []), .string (bs [])], .bool false]) (by simp [results, Tryz.results29, go_sem, cZ0, cZ1, cZ2, zZ0, zZ1, zZ2, kZ]; try rfl) rfl ⟨⟨[], [], [], false, rfl, Lib.hid hs⟩, ?_⟩
          subst hz
          exact below3 hB (Nat.le_refl _) _ _ _
end Go.Proofs.YtpjkdgdgjlldfaaGreatDoor
