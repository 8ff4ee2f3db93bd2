/-
  Package dec: Parse.
-/
import Derived.Test.YtpjkdgdgjlldfaaGreatDoorDcB
import Derived.Lib.Repeat
namespace Go.Proofs.YtpjkdgdgjlldfaaGreatDoor
open Go.RowKit

theorem split_none (l : List UInt8) (w : World) (hl : l.length ≤ 1000000) (h : spl l = none) :
    Calls Tryz.prog 29 #[.string (bs l)] w fun e w' => (∃ x0 x1 x2 : List UInt8, e = .returned (.tuple #[.agg #[.string (bs x0), .string (bs x1), .string (bs x2)], .bool false])) ∧ Below w.heap.size w w' :=
  (split_any l w hl).mono (by
    rintro e w' ⟨⟨x0, x1, x2, ok, rfl, hs⟩, hb⟩
    cases ok
    · exact ⟨⟨x0, x1, x2, rfl⟩, hb⟩
    · have := hs.out; rw [h] at this; cases this)
theorem split_some (l sg wh pl : List UInt8) (w : World) (hl : l.length ≤ 1000000) (h : spl l = some (sg, wh, pl)) :
    Calls Tryz.prog 29 #[.string (bs l)] w fun e w' => e = .returned (.tuple #[.agg #[.string (bs sg), .string (bs wh), .string (bs pl)], .bool true]) ∧ Below w.heap.size w w' :=
  (split_any l w hl).mono (by
    rintro e w' ⟨⟨x0, x1, x2, ok, rfl, hs⟩, hb⟩
    have h1 := hs.out
    rw [h] at h1
    cases ok
    · cases h1
    · simp only [if_true, Option.some.injEq, Prod.mk.injEq] at h1
      obtain ⟨rfl, rfl, rfl⟩ := h1
      exact ⟨rfl, hb⟩)
theorem repeat_one (c : UInt8) (k : Nat) : Lib.repeatL [c] k = List.replicate k c := by
  induction k with
  | zero => rfl
  | succ k ih => rw [Lib.repeatL, ih, List.replicate_succ]; rfl
/-- The library's variable ErrRange holds an error. -/
def Er (w : World) : Prop := ∃ tp p, w.var? Tryz.prog "strconv.ErrRange" = some #[.iface tp p]
theorem Er.keep {w w' : World} (h : Er w) (hb : Below w.heap.size w w') : Er w' := by
  obtain ⟨tp, p, hv⟩ := h
  refine ⟨tp, p, ?_⟩
  unfold World.var? at hv ⊢
  cases hg : Tryz.prog.globalNamed "strconv.ErrRange" with
  | none => rw [hg] at hv; cases hv
  | some g =>
    rw [hg] at hv
    simp only [Option.bind_some] at hv ⊢
    cases hh : w.heap[g]? with
    | none => rw [hh] at hv; cases hv
    | some o =>
      have hl : g < w.heap.size := (Array.getElem?_eq_some_iff.1 hh).1
      rw [hb.block g hl]; exact hv
theorem add_run (a b : List UInt8) (ha : a.length ≤ 1000100) (hb : b.length ≤ 1000100) (w : World) : (Op.stringOp .add (bs a) (bs b)).run Tryz.prog w = .ok (.string (bs (a ++ b))) w :=
  run_string_add_lists w a b (by omega) (by omega)
/-- Where the whole number and the places stand in the text. -/
theorem spl_len (l sg wh pl : List UInt8) (h : spl l = some (sg, wh, pl)) : sg.length + wh.length + pl.length ≤ l.length := by
  obtain ⟨e, -⟩ := spl_some l sg wh pl h
  have := congrArg List.length e
  simp only [List.length_append] at this
  unfold pnt at this
  split at this
  · rename_i h; subst h; simp at this ⊢; omega
  · simp at this; omega

set_option maxRecDepth 100000 in
set_option maxHeartbeats 1000000 in
theorem parse_none (l : List UInt8) (d : Nat) (w : World) (hl : l.length ≤ 1000000) (hd : d ≤ 18) (h : spl l = none) :
    Calls Tryz.prog 9 #[.string (bs l), .int .i64 (d : Int)] w fun e w' => e = .returned (.tuple #[.int .i64 0, .int .i64 5]) ∧ Below w.heap.size w w' := by
  have hs := fun w => split_none l w hl h
  clear h
  go_enter Tryz.func9, Tryz.ntmps9
  go_wp2_with (go_at_call 29; (with_reducible refine (hs _).mono ?_); rintro e w1 ⟨⟨x0, x1, x2, rfl⟩, hb⟩)
  go_ret2
  exact ⟨rfl, hb.alloc hb.size _⟩
set_option maxRecDepth 100000 in
set_option maxHeartbeats 1000000 in
theorem parse_long (l sg wh pl : List UInt8) (d : Nat) (w : World) (hl : l.length ≤ 1000000) (hd : d ≤ 18) (h : spl l = some (sg, wh, pl)) (hp : d < pl.length) :
    Calls Tryz.prog 9 #[.string (bs l), .int .i64 (d : Int)] w fun e w' => e = .returned (.tuple #[.int .i64 0, .int .i64 5]) ∧ Below w.heap.size w w' := by
  have hs := fun w => split_some l sg wh pl w hl h
  have s1 : (bs pl).size = pl.length := rfl
  clear h
  generalize pl.length = p at *
  go_enter Tryz.func9, Tryz.ntmps9
  go_wp2_with (go_at_call 29; (with_reducible refine (hs _).mono ?_); rintro e w1 ⟨rfl, hb⟩)
  go_ret2
  exact ⟨rfl, hb.alloc hb.size _⟩
set_option maxRecDepth 100000 in
set_option maxHeartbeats 2000000 in
theorem parse_ok (l sg wh pl : List UInt8) (d : Nat) (v : Int) (w : World) (hl : l.length ≤ 1000000) (hd : d ≤ 18) (h : spl l = some (sg, wh, pl)) (hp : pl.length ≤ d) (ha : Lib.atoiAll (sg ++ wh ++ pl ++ List.replicate (d - pl.length) 48) = .ok v) :
    Calls Tryz.prog 9 #[.string (bs l), .int .i64 (d : Int)] w fun e w' => e = .returned (.tuple #[.int .i64 v, .int .i64 0]) ∧ Below w.heap.size w w' := by
  have hs := fun w => split_some l sg wh pl w hl h
  have hlen := spl_len l sg wh pl h
  have s1 : (bs pl).size = pl.length := rfl
  clear h
  have hr : ∀ w, Calls Tryz.prog 30 #[.string ⟨#[48]⟩, .int .i64 ((d - pl.length : Nat) : Int)] w fun e w' => e = .returned (.string (bs (List.replicate (d - pl.length) 48))) ∧ Below w.heap.size w w' := fun w => by
    have t := Tryz.strings_Repeat ⟨#[48]⟩ (d - pl.length) w (by omega) (by show 1 * _ ≤ _; omega)
    rw [show ((⟨#[48]⟩ : ByteArray).data.toList) = [48] from rfl, repeat_one] at t
    exact t
  have hat : ∀ w, Calls Tryz.prog 31 #[.string (bs (sg ++ wh ++ pl ++ List.replicate (d - pl.length) 48))] w fun e w' => e = .returned (.tuple #[.int .i64 v, .nilIface]) ∧ Below w.heap.size w w' := fun w => by
    refine (Tryz.strconv_Atoi_ok (bs (sg ++ wh ++ pl ++ List.replicate (d - pl.length) 48)) (by rw [bs_size]; simp; omega) v (by rw [bs_list]; exact ha) w).mono ?_
    rintro e w' ⟨rfl, rfl | ⟨t, rfl⟩⟩
    · exact ⟨rfl, Below.refl _ _⟩
    · exact ⟨rfl, Lib.bytesWorld_below _ _ _⟩
  have c1 := add_run sg wh (by omega) (by omega)
  have c2 := add_run (sg ++ wh) pl (by simp; omega) (by omega)
  have c3 := add_run (sg ++ wh ++ pl) (List.replicate (d - pl.length) 48) (by simp; omega) (by simp; omega)
  have e1 : (d : Int) - (pl.length : Int) = ((d - pl.length : Nat) : Int) := by omega
  generalize sg ++ wh ++ pl ++ List.replicate (d - pl.length) 48 = all at *
  generalize sg ++ wh ++ pl = swp at *
  generalize sg ++ wh = sw at *
  generalize List.replicate (d - pl.length) (48 : UInt8) = zs at *
  obtain ⟨k, hk⟩ : ∃ k : Nat, d - pl.length = k := ⟨_, rfl⟩
  rw [hk] at hr e1
  obtain ⟨p, hpl⟩ : ∃ p : Nat, pl.length = p := ⟨_, rfl⟩
  rw [hpl] at hp s1 e1
  clear ha hlen hk hpl
  go_enter Tryz.func9, Tryz.ntmps9
  go_wp2_with (first | (go_at_call 29; (with_reducible refine (hs _).mono ?_); rintro e w1 ⟨rfl, hb⟩; have hB : Below w.heap.size w w1 := hb; clear hb) | (go_at_call 30; (with_reducible refine (hr _).mono ?_); rintro e w2 ⟨rfl, hb⟩; have bX := (Bn.new w1 #[.string (bs sg), .string (bs wh), .string (bs pl)] 61).keep hb; have cX0 := bX.cell 0 (.string (bs sg)) rfl; have cX1 := bX.cell 1 (.string (bs wh)) rfl; have cX2 := bX.cell 2 (.string (bs pl)) rfl; have hB2 : Below w.heap.size w w2 := (hB.alloc hB.size _).trans (hb.mono (by have := hB.size; simp; omega)); clear hb) | (go_at_call 31; (with_reducible refine (hat _).mono ?_); rintro e w3 ⟨rfl, hb⟩; have hB3 := hB2.trans (hb.mono hB2.size); clear hb))
  go_ret2
  exact ⟨rfl, hB3⟩
set_option maxRecDepth 100000 in
set_option maxHeartbeats 2000000 in
theorem parse_range (l sg wh pl : List UInt8) (d : Nat) (w : World) (hE : Er w) (hl : l.length ≤ 1000000) (hd : d ≤ 18) (h : spl l = some (sg, wh, pl)) (hp : pl.length ≤ d) (ha : Lib.atoiAll (sg ++ wh ++ pl ++ List.replicate (d - pl.length) 48) = .range) :
    Calls Tryz.prog 9 #[.string (bs l), .int .i64 (d : Int)] w fun e w' => e = .returned (.tuple #[.int .i64 0, .int .i64 6]) ∧ Below w.heap.size w w' := by
  have hs := fun w => split_some l sg wh pl w hl h
  have hlen := spl_len l sg wh pl h
  have s1 : (bs pl).size = pl.length := rfl
  clear h
  have hr : ∀ w, Calls Tryz.prog 30 #[.string ⟨#[48]⟩, .int .i64 ((d - pl.length : Nat) : Int)] w fun e w' => e = .returned (.string (bs (List.replicate (d - pl.length) 48))) ∧ Below w.heap.size w w' := fun w => by
    have t := Tryz.strings_Repeat ⟨#[48]⟩ (d - pl.length) w (by omega) (by show 1 * _ ≤ _; omega)
    rw [show ((⟨#[48]⟩ : ByteArray).data.toList) = [48] from rfl, repeat_one] at t
    exact t
  have hat : ∀ w, Er w → Calls Tryz.prog 31 #[.string (bs (sg ++ wh ++ pl ++ List.replicate (d - pl.length) 48))] w fun e w' => (∃ x N, e = .returned (.tuple #[.int .i64 x, .iface 127 (.pointer (some ⟨N, 0, none⟩))])) ∧ Below w.heap.size w w' := fun w ⟨tp, p, hv⟩ => by
    refine (Tryz.strconv_Atoi_range_var (bs (sg ++ wh ++ pl ++ List.replicate (d - pl.length) 48)) (by rw [bs_size]; simp; omega) (by rw [bs_list]; exact ha) tp p w hv).mono ?_
    rintro e w' ⟨N, rfl, -, -, hb⟩
    exact ⟨⟨_, N, rfl⟩, hb⟩
  have c1 := add_run sg wh (by omega) (by omega)
  have c2 := add_run (sg ++ wh) pl (by simp; omega) (by omega)
  have c3 := add_run (sg ++ wh ++ pl) (List.replicate (d - pl.length) 48) (by simp; omega) (by simp; omega)
  have e1 : (d : Int) - (pl.length : Int) = ((d - pl.length : Nat) : Int) := by omega
  generalize sg ++ wh ++ pl ++ List.replicate (d - pl.length) 48 = all at *
  generalize sg ++ wh ++ pl = swp at *
  generalize sg ++ wh = sw at *
  generalize List.replicate (d - pl.length) (48 : UInt8) = zs at *
  obtain ⟨k, hk⟩ : ∃ k : Nat, d - pl.length = k := ⟨_, rfl⟩
  rw [hk] at hr e1
  obtain ⟨p, hpl⟩ : ∃ p : Nat, pl.length = p := ⟨_, rfl⟩
  rw [hpl] at hp s1 e1
  clear ha hlen hk hpl
  go_enter Tryz.func9, Tryz.ntmps9
  go_wp2_with (first | (go_at_call 29; (with_reducible refine (hs _).mono ?_); rintro e w1 ⟨rfl, hb⟩; have hB : Below w.heap.size w w1 := hb; clear hb) | (go_at_call 30; (with_reducible refine (hr _).mono ?_); rintro e w2 ⟨rfl, hb⟩; have bX := (Bn.new w1 #[.string (bs sg), .string (bs wh), .string (bs pl)] 61).keep hb; have cX0 := bX.cell 0 (.string (bs sg)) rfl; have cX1 := bX.cell 1 (.string (bs wh)) rfl; have cX2 := bX.cell 2 (.string (bs pl)) rfl; have hB2 : Below w.heap.size w w2 := (hB.alloc hB.size _).trans (hb.mono (by have := hB.size; simp; omega)); clear hb) | (go_at_call 31; (refine (hat _ (hE.keep hB2)).mono ?_); rintro e w3 ⟨⟨xx, NN, rfl⟩, hb⟩; have hB3 := hB2.trans (hb.mono hB2.size); clear hb))
  go_ret2
  exact ⟨rfl, hB3⟩

/-- What Parse returns. -/
def pR (l : List UInt8) (d : Int) : Int × Int := if d < 0 ∨ 18 < d then (0, 2) else prs l d.toNat
theorem parse_bad (l : List UInt8) (d : Int) (w : World) (hd : d < 0 ∨ 18 < d) :
    Calls Tryz.prog 9 #[.string (bs l), .int .i64 d] w fun e w' => e = .returned (.tuple #[.int .i64 0, .int .i64 2]) ∧ Below w.heap.size w w' := by
  by_cases h : d < 0
  · clear hd
    go_enter Tryz.func9, Tryz.ntmps9
    go_wp2
    go_ret2
    exact ⟨rfl, Below.refl _ _⟩
  · have h2 : 18 < d := by omega
    clear hd
    go_enter Tryz.func9, Tryz.ntmps9
    go_wp2
    go_ret2
    exact ⟨rfl, Below.refl _ _⟩
theorem parse_any (l : List UInt8) (d : Int) (w : World) (hl : l.length ≤ 1000000) (hE : Er w) :
    Calls Tryz.prog 9 #[.string (bs l), .int .i64 d] w fun e w' => e = .returned (.tuple #[.int .i64 (pR l d).1, .int .i64 (pR l d).2]) ∧ Below w.heap.size w w' := by
  unfold pR
  by_cases h : d < 0 ∨ 18 < d
  · rw [if_pos h]; exact parse_bad l d w h
  · rw [if_neg h]
    obtain ⟨k, rfl⟩ : ∃ k : Nat, d = k := ⟨d.toNat, by omega⟩
    rw [show ((k : Int)).toNat = k by omega]
    unfold prs
    cases hs : spl l with
    | none => exact parse_none l k w hl (by omega) hs
    | some x =>
      obtain ⟨sg, wh, pl⟩ := x
      simp only []
      by_cases hp : k < pl.length
      · rw [if_pos hp]; exact parse_long l sg wh pl k w hl (by omega) hs hp
      · rw [if_neg hp]
        obtain ⟨-, e2, e3, e4, -, e6, -, -⟩ := spl_some l sg wh pl hs
        have hd : ∀ b ∈ wh ++ (pl ++ List.replicate (k - pl.length) 48), isD b = true := by
          intro b hb
          rcases List.mem_append.mp hb with h | h
          · exact e4 b h
          · rcases List.mem_append.mp h with h | h
            · exact e6 b h
            · rw [List.eq_of_mem_replicate h]; rfl
        obtain ⟨m, hm⟩ := decFrom_digits _ 0 hd
        have hat := fun b => atoi_digits b _ _ (by simp [e3]) hd hm
        have he : ∀ b : Bool, sg = (if b then [45] else []) → ∃ r, Lib.atoiAll (sg ++ wh ++ pl ++ List.replicate (k - pl.length) 48) = r ∧ (r = .range ∨ ∃ v, r = .ok v) := by
          intro b hb
          rw [hb, List.append_assoc, List.append_assoc, hat b]
          refine ⟨_, rfl, ?_⟩
          cases b <;> simp only [Bool.false_eq_true, if_false, if_true] <;> split
          · exact Or.inr ⟨_, rfl⟩
          · exact Or.inl rfl
          · exact Or.inr ⟨_, rfl⟩
          · exact Or.inl rfl
        obtain ⟨r, hr, h1 | ⟨v, h1⟩⟩ : ∃ r, Lib.atoiAll (sg ++ wh ++ pl ++ List.replicate (k - pl.length) 48) = r ∧ (r = .range ∨ ∃ v, r = .ok v) := by
          rcases e2 with h | h
          · exact he true (by rw [h]; rfl)
          · exact he false (by rw [h]; rfl)
        · subst h1; rw [hr]; exact parse_range l sg wh pl k w hE hl (by omega) hs (by omega) hr
        · subst h1; rw [hr]; exact parse_ok l sg wh pl k v w hl (by omega) hs (by omega) hr
end Go.Proofs.YtpjkdgdgjlldfaaGreatDoor
