/-
  Parse as a whole; sizes of numbers; the statements' helpers of, size, alike, is, fails.
-/
import Derived.Test.YtoppdbgodceaiaaDoorLhE
namespace Go.Proofs.YtoppdbgodceaiaaDoor
open Go.RowKit

set_option maxHeartbeats 1000000 in
theorem parse_empty (w : World) :
    Calls Tryd.prog 52 #[.string ⟨⟨[]⟩⟩] w fun e w' => e = .returned (.tuple #[noL, .int .i64 5]) ∧ Below w.heap.size w w' := by
  have hpos := fun w => isPositive_any [] w (by simp)
  rw [show isPos [] = false from rfl] at hpos
  have hsz : (⟨⟨[]⟩⟩ : ByteArray).size = 0 := rfl
  have hq : ((⟨⟨[]⟩⟩ : ByteArray).toList == [48]) = false := by rw [bytes_list]; rfl
  generalize (⟨⟨[]⟩⟩ : ByteArray) = S at *
  go_enter Tryd.func52, Tryd.ntmps52
  go_wp2_with (go_at_call 87; refine (hpos _).mono ?_; rintro e w1 ⟨rfl, rfl⟩)
  refine bodyPost_ret (v := .tuple #[.agg #[.bool false, .slice none 0 0], .int .i64 5]) (by simp [results, Tryd.results52, go_sem]) rfl ⟨rfl, by (repeat (first | with_reducible exact Below.refl _ _ | with_reducible assumption | refine Below.alloc ?_ (by (try simp); try omega) _ | refine Below.setCell ?_ (by (try simp); try omega) _ | refine below_drewN ?_ _ | refine Below.drew ?_ | (with_reducible refine Below.trans ?_ (Below.mono (by assumption) (by (try simp); try omega)))))⟩
set_option maxHeartbeats 1000000 in
theorem parse_zero (w : World) :
    Calls Tryd.prog 52 #[.string ⟨⟨[48]⟩⟩] w fun e w' => e = .returned (.tuple #[noL, .int .i64 0]) ∧ Below w.heap.size w w' := by
  have hsz : (⟨⟨[48]⟩⟩ : ByteArray).size = 1 := rfl
  have hq : ((⟨⟨[48]⟩⟩ : ByteArray).toList == [48]) = true := by rw [bytes_list]; rfl
  have hb0 : ∀ h : 0 < (⟨⟨[48]⟩⟩ : ByteArray).size, ((⟨⟨[48]⟩⟩ : ByteArray)[0]'h).toNat = 48 := fun h => rfl
  generalize (⟨⟨[48]⟩⟩ : ByteArray) = S at *
  go_enter Tryd.func52, Tryd.ntmps52
  go_wp2
  refine bodyPost_ret (v := .tuple #[.agg #[.bool false, .slice none 0 0], .int .i64 0]) (by simp [results, Tryd.results52, go_sem]) rfl ⟨rfl, by (repeat (first | with_reducible exact Below.refl _ _ | with_reducible assumption | refine Below.alloc ?_ (by (try simp); try omega) _ | refine Below.setCell ?_ (by (try simp); try omega) _ | refine below_drewN ?_ _ | refine Below.drew ?_ | (with_reducible refine Below.trans ?_ (Below.mono (by assumption) (by (try simp); try omega)))))⟩

/-- How many digits to the base 10^9 a number has. -/
def Dl (z : Int) : Nat := (dg (z.natAbs : Int)).length
theorem Dl_le {z : Int} {k : Nat} (h : (z.natAbs : Int) < 1000000000 ^ k) : Dl z ≤ k := dg_len_le (by omega) h
theorem Dl_lt (z : Int) : (z.natAbs : Int) < 1000000000 ^ Dl z := dg_lt (by omega)
theorem Dl_mono {x y : Int} (h : x.natAbs ≤ y.natAbs) : Dl x ≤ Dl y := dg_len_mono (by omega) (by omega)
theorem Dl_neg (z : Int) : Dl (-z) = Dl z := by unfold Dl; rw [Int.natAbs_neg]
theorem Dl_zero : Dl 0 = 0 := by unfold Dl; rw [show (((0 : Int).natAbs : Nat) : Int) = 0 from rfl, dg_zero]; rfl
theorem Dl_pos {z : Int} (h : z ≠ 0) : 1 ≤ Dl z := dg_len_pos (by omega)
theorem Dl_add (x y : Int) : Dl (x + y) ≤ max (Dl x) (Dl y) + 1 := by
  refine Dl_le ?_
  have h1 := Dl_lt x
  have h2 := Dl_lt y
  have h3 := pow9_le (Nat.le_max_left (Dl x) (Dl y))
  have h4 := pow9_le (Nat.le_max_right (Dl x) (Dl y))
  rw [Int.pow_succ]
  have := pow9 (max (Dl x) (Dl y))
  omega
theorem Dl_sub (x y : Int) : Dl (x - y) ≤ max (Dl x) (Dl y) + 1 := by
  have := Dl_add x (-y)
  rw [Dl_neg] at this
  rwa [Int.sub_eq_add_neg]
theorem Dl_mul (x y : Int) : Dl (x * y) ≤ Dl x + Dl y := by
  have := len_mul (x := (x.natAbs : Int)) (y := (y.natAbs : Int)) (by omega) (by omega)
  unfold Dl
  rw [Int.natAbs_mul, Int.natCast_mul]
  exact this
theorem Dl_rt {x : Int} (h : 0 ≤ x) : Dl (rt x) ≤ Dl x := Dl_mono (by have := rt_le_self h; have := (rt_spec x h).1; omega)
theorem Dl_tdiv (x y : Int) : Dl (x.tdiv y) ≤ Dl x := Dl_mono (by rw [Int.natAbs_tdiv]; exact Nat.div_le_self _ _)
theorem Dl_tmod (x : Int) {y : Int} (h : y ≠ 0) : Dl (x.tmod y) ≤ Dl y := Dl_mono (by rw [Int.natAbs_tmod]; exact Nat.le_of_lt (Nat.mod_lt _ (by omega)))
theorem Dl_two {z : Int} (h0 : -1000000000000000000 < z) (h1 : z < 1000000000000000000) : Dl z ≤ 2 := Dl_le (by omega)
theorem Dl_three {z : Int} (h0 : -1000000000000000000000000000 < z) (h1 : z < 1000000000000000000000000000) : Dl z ≤ 3 := Dl_le (by omega)

/-- A value that is the long integer z, written out. -/
def LgV (z : Int) (e : Ending) (w' : World) : Prop := ∃ p a n c, e = .returned (.agg #[.bool p, .slice a n c]) ∧ Lg w' (.agg #[.bool p, .slice a n c]) z
theorem Lg.zero (w : World) : Lg w noL 0 := by
  refine ⟨.slice none 0 0, rfl, ?_⟩
  rw [show (((0 : Int).natAbs : Nat) : Int) = 0 from rfl, dg_zero]
  exact Ls.nil w
theorem add_ok (A B : Value) (x y : Int) (w : World) (hA : Lg w A x) (hB : Lg w B y) (l1 : Dl x ≤ 600) (l2 : Dl y ≤ 600) (l3 : Dl (x + y) ≤ 600) :
    Calls Tryd.prog 29 #[A, B] w fun e w' => OkL (x + y) e w' ∧ Below w.heap.size w w' := (add_num A B x y w hA hB l1 l2).mono fun _ _ h => ⟨h.1.ok l3, h.2⟩
theorem sub_ok (A B : Value) (x y : Int) (w : World) (hA : Lg w A x) (hB : Lg w B y) (l1 : Dl x ≤ 600) (l2 : Dl y ≤ 600) (l3 : Dl (x - y) ≤ 600) :
    Calls Tryd.prog 31 #[A, B] w fun e w' => OkL (x - y) e w' ∧ Below w.heap.size w w' := (sub_num A B x y w hA hB l1 l2).mono fun _ _ h => ⟨h.1.ok l3, h.2⟩
theorem mul_ok (A B : Value) (x y : Int) (w : World) (hA : Lg w A x) (hB : Lg w B y) (l1 : Dl x ≤ 600) (l2 : Dl y ≤ 600) (l3 : Dl (x * y) ≤ 600) :
    Calls Tryd.prog 36 #[A, B] w fun e w' => OkL (x * y) e w' ∧ Below w.heap.size w w' := (mul_num A B x y w hA hB l1 l2).mono fun _ _ h => ⟨h.1.ok l3, h.2⟩
theorem sqrt_ok (A : Value) (x : Int) (w : World) (hA : Lg w A x) (x0 : 0 ≤ x) (l1 : Dl x ≤ 600) :
    Calls Tryd.prog 47 #[A] w fun e w' => OkL (rt x) e w' ∧ Below w.heap.size w w' := (sqrt_num A x w hA x0 l1).mono fun _ _ h => ⟨h.1.ok (Nat.le_trans (Dl_rt x0) l1), h.2⟩
theorem gcdS_ok (A B : Value) (x y : Int) (w : World) (hA : Lg w A x) (hB : Lg w B y) (l1 : Dl x ≤ 600) (l2 : Dl y ≤ 600) (hsm : Dl x ≤ 2 ∨ Dl y ≤ 2) :
    Calls Tryd.prog 40 #[A, B] w fun e w' => OkL (gI (x.natAbs : Int) (y.natAbs : Int)) e w' ∧ Below w.heap.size w w' := by
  refine (gcdS_num A B x y w hA hB l1 l2 hsm).mono fun _ _ h => ⟨h.1.ok ?_, h.2⟩
  have h0 := gI_nonneg (x.natAbs : Int) (y.natAbs : Int)
  have := gI_len (x := (x.natAbs : Int)) (y := (y.natAbs : Int)) (by omega) (by omega)
  rw [show ((gI (x.natAbs : Int) (y.natAbs : Int)).natAbs : Int) = gI (x.natAbs : Int) (y.natAbs : Int) by omega]
  unfold Dl at l1 l2
  omega
/-- The call returned a quotient and a rest, and no error. -/
def OkL2 (q r : Int) (e : Ending) (w' : World) : Prop := ∃ p a n c p' a' n' c', e = .returned (.tuple #[.agg #[.bool p, .slice a n c], .agg #[.bool p', .slice a' n' c'], .int .i64 0]) ∧ Lg w' (.agg #[.bool p, .slice a n c]) q ∧ Lg w' (.agg #[.bool p', .slice a' n' c']) r
theorem div_ok (A B : Value) (x y : Int) (w : World) (hA : Lg w A x) (hB : Lg w B y) (l1 : Dl x ≤ 600) (l2 : Dl y ≤ 600) (y0 : y ≠ 0) :
    Calls Tryd.prog 38 #[A, B] w fun e w' => OkL2 (x.tdiv y) (x.tmod y) e w' ∧ Below w.heap.size w w' := by
  refine (div_num A B x y w hA hB l1 l2 y0).mono ?_
  rintro e w' ⟨Q, R, rfl, hQ, hR, hb⟩
  have hQ' := hQ
  have hR' := hR
  obtain ⟨s, rfl, a, c, rfl, _⟩ := hQ
  obtain ⟨s', rfl, a', c', rfl, _⟩ := hR
  exact ⟨⟨_, _, _, _, _, _, _, _, rfl, hQ', hR'⟩, hb⟩

/-- A text and its number. -/
def PText (l : List UInt8) (z : Int) : Prop := (l = [48] ∧ z = 0) ∨ (∃ T, l = 45 :: T ∧ isPos T = true ∧ T.length ≤ 5400 ∧ z = -(dn T)) ∨ (isPos l = true ∧ l.length ≤ 5400 ∧ z = dn l)
theorem pos_len {l : List UInt8} (h : isPos l = true) (hl : l.length ≤ 5400) : 0 < dn l ∧ dn l < 1000000000 ^ 600 ∧ ∃ c t, l = c :: t ∧ c.toNat ≠ 45 ∧ l ≠ [48] := by
  obtain ⟨c, t, rfl, hc, c0, ht, hall⟩ := isPos_true h
  have h1 := dn_pos ht hc c0
  have h2 := (dn_bounds hall).2
  have h3 := pow10_le hl
  have h4 : (10 : Int) ^ 5400 = 1000000000 ^ 600 := by rw [show 5400 = 9 * 600 from rfl, pow9_10]
  refine ⟨h1, by omega, c, t, rfl, by unfold isd at hc; omega, ?_⟩
  intro e
  injection e with e1 e2
  subst e1
  exact c0 rfl
theorem PText.len {l : List UInt8} {z : Int} (h : PText l z) : Dl z ≤ 600 := by
  rcases h with ⟨_, rfl⟩ | ⟨T, rfl, hp, hl, rfl⟩ | ⟨hp, hl, rfl⟩
  · rw [Dl_zero]; omega
  · have := pos_len hp hl; exact Dl_le (by omega)
  · have := pos_len hp hl; exact Dl_le (by omega)
theorem parse_num (l : List UInt8) (z : Int) (w : World) (h : PText l z) :
    Calls Tryd.prog 52 #[.string ⟨⟨l⟩⟩] w fun e w' => OkL z e w' ∧ Below w.heap.size w w' := by
  have hz := h.len
  rcases h with ⟨rfl, rfl⟩ | ⟨T, rfl, hp, hl, rfl⟩ | ⟨hp, hl, rfl⟩
  · refine (parse_zero w).mono ?_
    rintro e w' ⟨rfl, hb⟩
    exact ⟨⟨_, _, _, _, rfl, Lg.zero w'⟩, hb⟩
  · exact (parseN_ok T _ w hl hp rfl).mono fun _ _ k => ⟨k.1.ok hz, k.2⟩
  · obtain ⟨_, _, c, t, rfl, hc, h48⟩ := pos_len hp hl
    exact (parseP_ok c t _ w hc h48 hl hp rfl).mono fun _ _ k => ⟨k.1.ok hz, k.2⟩
theorem sx_of {l : List UInt8} {z : Int} (h : PText l z) : sx z = ⟨⟨l⟩⟩ := by
  unfold sx
  rw [itoa_sign]
  rcases h with ⟨rfl, rfl⟩ | ⟨T, rfl, hp, hl, rfl⟩ | ⟨hp, hl, rfl⟩
  · have e : tx (((0 : Int).natAbs : Nat) : Int) = [48] := by unfold tx; rw [Lib.decDigits_one (by simp)]; rfl
    rw [e, if_neg (by omega)]; rfl
  · obtain ⟨c, t, rfl, hc, c0, ht, hall⟩ := isPos_true hp
    have h1 := dn_pos ht hc c0
    rw [if_pos (by omega), show ((-(dn (c :: t))).natAbs : Int) = dn (c :: t) by omega, tx_dn ht hc c0]; rfl
  · obtain ⟨c, t, rfl, hc, c0, ht, hall⟩ := isPos_true hp
    have h1 := dn_pos ht hc c0
    rw [if_neg (by omega), show ((dn (c :: t)).natAbs : Int) = dn (c :: t) by omega, tx_dn ht hc c0]; rfl

theorem of_num (l : List UInt8) (z : Int) (w : World) (h : PText l z) :
    Calls Tryd.prog 58 #[.string ⟨⟨l⟩⟩] w fun e w' => LgV z e w' ∧ Below w.heap.size w w' := by
  have hp := fun w => parse_num l z w h
  clear h
  generalize (⟨⟨l⟩⟩ : ByteArray) = S at *
  have bR := Bx.new w (.bool false) (.slice none 0 0) 24
  have a1 := Below.alloc (Below.refl w.heap.size w) (Nat.le_refl _) (.cells #[.bool false, .slice none 0 0] 24)
  go_enter Tryd.func58, Tryd.ntmps58
  go_wp2_with fail
  go_at_call 52
  refine (hp _).mono ?_
  rintro e w1 ⟨⟨p, a, n, c, rfl, hL⟩, hb⟩
  have B1 := a1.trans (hb.mono a1.size)
  have bR1 := (bR.keep hb).alloc (.cells #[.bool p, .slice a n c] 24)
  have bR2 := bR.keep hb
  have r0 := bR2.c0
  have r1 := bR2.c1
  have f0 := bR2.f 0
  have f1 := bR2.f 1
  have y2 := bR2.lt
  have hLr : Lg (((w1.setCell ⟨w.heap.size, 0, none⟩ (.bool p)).setCell ⟨w.heap.size, 1, none⟩ (.slice a n c)).alloc (.cells #[.bool p, .slice a n c] 24)) (.agg #[.bool p, .slice a n c]) z := by
    obtain ⟨s, hs, hl⟩ := hL
    have hl2 : Lg ((w1.setCell ⟨w.heap.size, 0, none⟩ (.bool p)).setCell ⟨w.heap.size, 1, none⟩ (.slice a n c)) (.agg #[.bool p, .slice a n c]) z := ⟨s, hs, hl.boxed bR2 (nb _) (ns _ _ _) _⟩
    exact hl2.keep ((Below.refl _ _).alloc (Nat.le_refl _) _)
  clear bR1
  go_wp2
  refine bodyPost_ret (v := .agg #[.bool p, .slice a n c]) (by simp [results, Tryd.results58, go_sem, y2, r0, r1, f0, f1]) rfl ⟨⟨p, a, n, c, rfl, hLr⟩, by (repeat (first | with_reducible exact Below.refl _ _ | with_reducible assumption | refine Below.alloc ?_ (by (try simp); try omega) _ | refine Below.setCell ?_ (by (try simp); try omega) _ | refine below_drewN ?_ _ | refine Below.drew ?_ | (with_reducible refine Below.trans ?_ (Below.mono (by assumption) (by (try simp); try omega)))))⟩

theorem is_any (S : ByteArray) (w : World) :
    Calls Tryd.prog 55 #[.string S] w fun e w' => ∃ bx : Nat, e = .returned (.func (.func 90) #[] #[.pointer (some ⟨bx, 0, none⟩)]) ∧ w'.cell? ⟨bx, 0, none⟩ = some (.string S) ∧ Below w.heap.size w w' := by
  have hmf : ∀ (fn : Fn) (first cap : Array Value) (w : World), (Instr.makeFunc fn first cap).run Tryd.prog w = .ok (.func fn first cap) w := fun _ _ _ _ => rfl
  have h : Calls Tryd.prog 55 #[.string S] w fun e w' => e = .returned (.func (.func 90) #[] #[.pointer (some ⟨w.heap.size, 0, none⟩)]) ∧ w' = w.alloc (.cells #[.string S] 9) := by
    go_enter Tryd.func55, Tryd.ntmps55
    go_wp2
    go_ret
    exact ⟨rfl, rfl⟩
  refine h.mono ?_
  rintro e w' ⟨rfl, rfl⟩
  exact ⟨_, rfl, by simp, by (repeat (first | with_reducible exact Below.refl _ _ | with_reducible assumption | refine Below.alloc ?_ (by (try simp); try omega) _ | refine Below.setCell ?_ (by (try simp); try omega) _ | refine below_drewN ?_ _ | refine Below.drew ?_ | (with_reducible refine Below.trans ?_ (Below.mono (by assumption) (by (try simp); try omega)))))⟩
theorem fails_any (x : Int) (w : World) :
    Calls Tryd.prog 60 #[.int .i64 x] w fun e w' => ∃ bx : Nat, e = .returned (.func (.func 98) #[] #[.pointer (some ⟨bx, 0, none⟩)]) ∧ w'.cell? ⟨bx, 0, none⟩ = some (.int .i64 x) ∧ Below w.heap.size w w' := by
  have hmf : ∀ (fn : Fn) (first cap : Array Value) (w : World), (Instr.makeFunc fn first cap).run Tryd.prog w = .ok (.func fn first cap) w := fun _ _ _ _ => rfl
  have h : Calls Tryd.prog 60 #[.int .i64 x] w fun e w' => e = .returned (.func (.func 98) #[] #[.pointer (some ⟨w.heap.size, 0, none⟩)]) ∧ w' = w.alloc (.cells #[.int .i64 x] 36) := by
    go_enter Tryd.func60, Tryd.ntmps60
    go_wp2
    go_ret
    exact ⟨rfl, rfl⟩
  refine h.mono ?_
  rintro e w' ⟨rfl, rfl⟩
  exact ⟨_, rfl, by simp, by (repeat (first | with_reducible exact Below.refl _ _ | with_reducible assumption | refine Below.alloc ?_ (by (try simp); try omega) _ | refine Below.setCell ?_ (by (try simp); try omega) _ | refine below_drewN ?_ _ | refine Below.drew ?_ | (with_reducible refine Below.trans ?_ (Below.mono (by assumption) (by (try simp); try omega)))))⟩
set_option maxHeartbeats 1000000 in
theorem is1_true (A : Value) (z : Int) (bx : Nat) (S : ByteArray) (w : World) (hA : Lg w A z) (l1 : Dl z ≤ 600) (hP : Pw w) (h0 : w.cell? ⟨bx, 0, none⟩ = some (.string S)) (hS : sx z = S) :
    Calls Tryd.prog 90 #[A, .int .i64 0, .pointer (some ⟨bx, 0, none⟩)] w fun r w' => r = .returned (.bool true) ∧ Below w.heap.size w w' := by
  have hA' := hA
  obtain ⟨s, rfl, pa, ca, rfl, _⟩ := hA
  have a1 := Below.alloc (Below.refl w.heap.size w) (Nat.le_refl _) (.cells #[.bool (decide (z < 0)), .slice pa (dg (z.natAbs : Int)).length ca] 24)
  have ht := text_num _ z _ (hA'.keep a1) l1 (hP.keep a1)
  rw [hS] at ht
  have hlt := World.block_lt_of_cell? w _ h0
  simp only [] at hlt
  have hb0 := lkeep a1 h0
  generalize decide (z < 0) = p at *
  generalize (dg (z.natAbs : Int)).length = n at *
  clear hA' hS h0
  go_enter Tryd.func90, Tryd.ntmps90
  go_wp2_with fail
  go_at_call 49
  refine ht.mono ?_
  rintro e w1 ⟨rfl, hb1⟩
  have h1 := lkeep hb1 hb0
  have B1 := a1.trans (hb1.mono a1.size)
  clear ht hb0 hb1 a1
  go_wp2
  go_ret
  exact ⟨rfl, B1⟩
set_option maxHeartbeats 1000000 in
theorem fails1_true (x : Int) (bx : Nat) (w : World) (h0 : w.cell? ⟨bx, 0, none⟩ = some (.int .i64 x)) :
    Calls Tryd.prog 98 #[noL, .int .i64 x, .pointer (some ⟨bx, 0, none⟩)] w fun r w' => r = .returned (.bool true) ∧ Below w.heap.size w w' := by
  have hs := fun w => same_any false false (.slice none 0 0) (.slice none 0 0) [] [] w (Ls.nil w) (Ls.nil w) (by simp) (by simp)
  rw [show (false == false && decide (([] : List Int) = [])) = true from rfl] at hs
  have hlt := World.block_lt_of_cell? w _ h0
  simp only [] at hlt
  go_enter Tryd.func98, Tryd.ntmps98
  go_wp2_with fail
  go_at_call 27
  refine (hs _).mono ?_
  rintro e w1 ⟨rfl, hb⟩
  have B1 := ((Below.refl w.heap.size w).alloc (Nat.le_refl _) (.cells #[.bool false, .slice none 0 0] 24)).trans (hb.mono (by simp))
  have c0 : w1.cell? ⟨bx, 0, none⟩ = some (.int .i64 x) := lkeep B1 h0
  go_wp2
  go_ret
  exact ⟨rfl, B1⟩
end Go.Proofs.YtoppdbgodceaiaaDoor
