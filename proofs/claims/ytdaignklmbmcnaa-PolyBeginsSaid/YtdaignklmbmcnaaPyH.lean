/-
  PolyBegins answers true.
-/
import Derived.Test.YtdaignklmbmcnaaPyX
import Derived.Test.YtdaignklmbmcnaaPyP
import Derived.Test.YtdaignklmbmcnaaPyL
import Derived.Deep.AppendLies
import Derived.Deep.RegionLaw
import Derived.BigRegion
namespace Go.Proofs.Ytdaignklmbmcnaa
open Go.RowKit

set_option maxRecDepth 100000 in
set_option maxHeartbeats 8000000 in
theorem polyBegins_true (va : Value) (D : List (Int × Int × Int)) (dx dy dz : Int) (w : World) (ha : Dn w va D) (hd : 0 ≤ dy ∧ dy ≤ 255 ∧ 0 ≤ dz ∧ dz ≤ 4294967295) :
    Calls Try.prog 6 #[va, .agg #[.int .i64 dx, .int .u8 dy, .int .u32 dz]] w fun r w' => r = .returned (.bool true) ∧ Below w.heap.size w w' := by
  obtain ⟨i0, hi, hz0, hz1, hz2⟩ := span_parts
  obtain ⟨lo, up, hsm, hw⟩ := drSmall_bd dx dy dz hd.1 hd.2.1 hd.2.2.1 hd.2.2.2
  clear hd
  have kx : ckS lo up = 0 := hsm.ck
  have d0 : B3 (w.alloc (.cells #[.int .i64 dx, .int .u8 dy, .int .u32 dz] 28)) w.heap.size dx dy dz := B3.new _ _ _ _ _
  have a0 : Below w.heap.size w (w.alloc (.cells #[.int .i64 dx, .int .u8 dy, .int .u32 dz] 28)) := (Below.refl _ _).alloc (Nat.le_refl _) _
  have ha0 := ha.keep ((Below.refl w.heap.size w).alloc (Nat.le_refl _) (.cells #[.int .i64 dx, .int .u8 dy, .int .u32 dz] 28))
  go_enter Try.func6, Try.ntmps6
  go_wp2_with fail
  go_at_call 9
  refine (works_true _).mono ?_
  rintro e w1 ⟨rfl, hb1⟩
  have ha1 := ha0.keep hb1
  have d1 := d0.keep hb1
  have a1 : Below w.heap.size w w1 := a0.trans (hb1.mono (by simp))
  clear ha ha0 d0 a0 hb1
  go_wp2_with fail
  go_at_call 11
  refine (coefsS_any va D w1 ha1).mono ?_
  rintro e w2 ⟨hb2, u, r, rfl, hown, hlen, hsml, hnil⟩
  have hok : Ok r := fun c hc => (hsml c hc).ck
  have hl8 : r.length ≤ 8 := by omega
  have d2 := d1.keep hb2
  have l2 := hb2.size
  have ub : ∀ k, u.ownBlock = some k → k < w2.heap.size := fun k hk => (hown.lt k hk).2
  have a2 : Below w.heap.size w w2 := a1.trans (hb2.mono a1.size)
  have hbase : w.heap.size < w1.heap.size := by have := World.block_lt_of_cell? w1 _ d1.1; simpa using this
  clear ha1 d1 hb2 hlen a1
  have S2 : Sn w2 u r := Sn.own hown
  have ev0 := begins_eval hok hl8
  have sl0 := begins_slope hsml hl8
  have emore := fun (h : r.length ≤ 7) => begins_more (x := lo) (y := up) hok h kx
  obtain ⟨⟨x0, x1, x2⟩, evx⟩ : ∃ q, evR r lo up = q := ⟨_, rfl⟩
  rw [evx] at emore
  obtain ⟨f0, hf0⟩ : ∃ f0, (pf r 0).1 = f0 := ⟨_, rfl⟩
  obtain ⟨f1, hf1⟩ : ∃ f1, (pf r 0).2 = f1 := ⟨_, rfl⟩
  obtain ⟨g0, hg0⟩ : ∃ g0, (pf r 1).1 = g0 := ⟨_, rfl⟩
  obtain ⟨g1, hg1⟩ : ∃ g1, (pf r 1).2 = g1 := ⟨_, rfl⟩
  rw [hf0, hf1] at ev0
  rw [hg0, hg1] at sl0
  have E0 := Lib.hid ev0
  have L0 := Lib.hid sl0
  have M0 := Lib.hid emore
  have X0 := Lib.hid evx
  have Hs := Lib.hid hsml
  clear ev0 sl0 emore evx hsml hsm
  go_wp2_with fail
  go_at_call 13
  refine (polyEval_eq S2 E0.out).mono ?_
  rintro e w3 ⟨rfl, hb3⟩
  have A3 := B2F.new w3 f0 f1 24
  have S3 := (S2.keep hb3).keep ((Below.refl _ _).alloc (Nat.le_refl _) (.cells #[.int .i64 f0, .int .i64 f1] 24))
  have d3 := (d2.keep hb3).keep ((Below.refl _ _).alloc (Nat.le_refl _) (.cells #[.int .i64 f0, .int .i64 f1] 24))
  have o3 := ownsBelow (ownsBelow hown hb3) ((Below.refl _ _).alloc (Nat.le_refl _) (.cells #[.int .i64 f0, .int .i64 f1] 24))
  have a3 : Below w.heap.size w (w3.alloc (.cells #[.int .i64 f0, .int .i64 f1] 24)) := (a2.trans (hb3.mono a2.size)).alloc (a2.trans (hb3.mono a2.size)).size _
  have l3 : w1.heap.size ≤ w3.heap.size ∧ w2.heap.size ≤ w3.heap.size := by have := hb3.size; omega
  clear S2 d2 hown a2 hb3
  go_wp2_with fail
  go_at_call 15
  refine (polySlope_eq S3 L0.out).mono ?_
  rintro e w4 ⟨rfl, hb4⟩
  have A4p := A3.keep hb4
  have d4p := d3.keep hb4
  have o4p := ownsBelow o3 hb4
  have A4 := (A3.keep hb4).alloc (.cells #[.int .i64 g0, .int .i64 g1] 24)
  have B4 := B2F.new w4 g0 g1 24
  have d4 := (d3.keep hb4).keep ((Below.refl _ _).alloc (Nat.le_refl _) (.cells #[.int .i64 g0, .int .i64 g1] 24))
  have o4 := ownsBelow (ownsBelow o3 hb4) ((Below.refl _ _).alloc (Nat.le_refl _) (.cells #[.int .i64 g0, .int .i64 g1] 24))
  have a4 : Below w.heap.size w (w4.alloc (.cells #[.int .i64 g0, .int .i64 g1] 24)) := (a3.trans (hb4.mono a3.size)).alloc (a3.trans (hb4.mono a3.size)).size _
  have l4 : w3.heap.size < w4.heap.size := by have := hb4.size; simp at this; omega
  clear A3 S3 d3 o3 a3 hb4
  have hcase : (r = [] ∧ u = .slice none 0 0 ∧ f0 = 0 ∧ f1 = 0 ∧ g0 = 0 ∧ g1 = 0) ∨ (r.length = 1 ∧ g0 = 0 ∧ g1 = 0) ∨ 2 ≤ r.length := by
    match r, hnil, hf0, hf1, hg0, hg1 with
    | [], hnil, hf0, hf1, hg0, hg1 => exact .inl ⟨rfl, hnil rfl, hf0.symm, hf1.symm, hg0.symm, hg1.symm⟩
    | [c], _, _, _, hg0, hg1 => exact .inr (.inl ⟨rfl, hg0.symm, hg1.symm⟩)
    | _ :: _ :: _, _, _, _, _, _ => exact .inr (.inr (by simp))
  have form : 0 < r.length → ∃ g cap, u = .slice (some ⟨g, 0, none⟩) r.length cap ∧ r.length ≤ cap ∧ g < w2.heap.size ∧ w4.cell? ⟨g, 0, none⟩ = some (.int .i64 f0) ∧ w4.cell? ⟨g, 1, none⟩ = some (.int .i64 f1) ∧
      (1 < r.length → w4.cell? ⟨g, 2, none⟩ = some (.int .i64 g0) ∧ w4.cell? ⟨g, 3, none⟩ = some (.int .i64 g1)) := fun hp => by
    obtain ⟨g, cap, rfl, hc, _, _, ho⟩ := own_form o4p hp
    refine ⟨g, cap, rfl, hc, ub g rfl, ?_, ?_, fun h2 => ⟨?_, ?_⟩⟩
    · have := ho.cellAt 0 (by omega); rw [this, ← hf0]; exact (rowOf_at r 0 hp).1
    · have := ho.cellAt 1 (by omega); rw [this, ← hf1]; exact (rowOf_at r 0 hp).2
    · have := ho.cellAt 2 (by omega); rw [this, ← hg0]; exact (rowOf_at r 1 h2).1
    · have := ho.cellAt 3 (by omega); rw [this, ← hg1]; exact (rowOf_at r 1 h2).2
  clear hf0 hf1 hg0 hg1
  replace M0 := M0.out
  rcases hcase with h0 | h0 | h0
  · obtain ⟨hr0, rfl, rfl, rfl, rfl, rfl⟩ := h0
    have hlen : r.length = 0 := by rw [hr0]; rfl
    have h7 : r.length ≤ 7 := by omega
    clear form hr0
    have A40 := A4p.1
    have A41 := A4p.2.1
    have s1 : w3.heap.size < w4.heap.size + 1 := by omega
    have s2 : w3.heap.size < w4.heap.size + 1 + 1 := by omega
    have s3 : w.heap.size < w4.heap.size := by omega
    have s4 : w.heap.size < w4.heap.size + 1 := by omega
    have s5 : w.heap.size < w4.heap.size + 1 + 1 := by omega
    have na : w3.heap.size ≠ w4.heap.size := by omega
    have na1 : w3.heap.size ≠ w4.heap.size + 1 := by omega
    have na2 : w3.heap.size ≠ w4.heap.size + 1 + 1 := by omega
    have nd : w.heap.size ≠ w4.heap.size := by omega
    have nd1 : w.heap.size ≠ w4.heap.size + 1 := by omega
    have nd2 : w.heap.size ≠ w4.heap.size + 1 + 1 := by omega
    have d40 := d4p.1
    have d41 := d4p.2.1
    have d42 := d4p.2.2
    replace hlen := Lib.hid hlen
    go_wp2_with fail
    go_at_call 12
    refine (hw _).mono ?_
    rintro e w5 ⟨rfl, hb5⟩
    have A5 := ((A4.alloc _).alloc _).keep hb5
    have B5 := ((B4.alloc _).alloc _).keep hb5
    have d5 := ((d4.keep ((Below.refl _ _).alloc (Nat.le_refl _) _)).keep ((Below.refl _ _).alloc (Nat.le_refl _) _)).keep hb5
    have o5 := ownsBelow ((o4.alloc _).alloc _) hb5
    have a5 : Below w.heap.size w w5 := ((a4.alloc a4.size _).alloc (by have := a4.size; simp at this ⊢; omega) _).trans (hb5.mono (by have := a4.size; simp at this ⊢; omega))
    have l5 : w4.heap.size < w5.heap.size := by have := hb5.size; simp at this; omega
    have S5 := Sn.own o5
    clear A4 B4 d4 o4 a4 hb5 A4p d4p o4p A40 A41 d40 d41 d42 s1 s2 s3 s4 s5 na1 na2 nd nd1 nd2
    go_wp2_with fail
    go_at_call 13
    refine (polyEval_eq S5 X0.out).mono ?_
    rintro e w6 ⟨rfl, hb6⟩
    have A6 := A5.keep hb6
    have B6 := B5.keep hb6
    have d6 := d5.keep hb6
    have o6 := ownsBelow o5 hb6
    have a6 := a5.trans (hb6.mono a5.size)
    have l6 : w4.heap.size < w6.heap.size := by have := hb6.size; omega
    clear A5 B5 d5 o5 a5 hb6 S5 l5
    obtain ⟨p0, p1, p2, p3⟩ := A6
    have A6 : B2F w6 w3.heap.size 0 0 := ⟨p0, p1, p2, p3⟩
    go_wp2
    have AV := A6.set x0 x1
    have BV := B6.far (c := w3.heap.size) (by omega) (.int .i64 x0) (.int .i64 x1)
    have dV := d6.far (c := w3.heap.size) (by omega) (.int .i64 x0) (.int .i64 x1)
    have oV := own_far o6 (c := w3.heap.size) (fun e => by have := ub _ e; omega) (.int .i64 x0) (.int .i64 x1)
    have aV := (a6.setCell (p := ⟨w3.heap.size, 0, none⟩) (by simp; omega) (.int .i64 x0)).setCell (p := ⟨w3.heap.size, 1, none⟩) (by simp; omega) (.int .i64 x1)
    have lV : w4.heap.size < ((w6.setCell ⟨w3.heap.size, 0, none⟩ (.int .i64 x0)).setCell ⟨w3.heap.size, 1, none⟩ (.int .i64 x1)).heap.size := by simp; omega
    clear A6 B6 d6 o6 a6 p0 p1 p2 p3 l6
    obtain ⟨V, hV⟩ : ∃ V, ((w6.setCell ⟨w3.heap.size, 0, none⟩ (.int .i64 x0)).setCell ⟨w3.heap.size, 1, none⟩ (.int .i64 x1)) = V := ⟨_, rfl⟩
    rw [hV] at AV BV dV oV aV lV ⊢
    clear hV
    have E7 := Lib.hid (M0 h7)
    have hcl := fun W (hb : Below V.heap.size V W) => pyClone_any (.slice none 0 0) r w1.heap.size W (ownsBelow oV hb) hl8 (fun _ => rfl)
    have hl8' : r.length ≤ 8 := by first | exact hl8 | (rw [hlen.out]; exact hl8)
    have dx0 := dV.1
    have dx1 := dV.2.1
    have dx2 := dV.2.2
    have q1 : w.heap.size < V.heap.size := by omega
    have q2 : w.heap.size ≠ V.heap.size := by omega
    go_region_law (first | (go_simp; go_at_call 17; ((first | (with_reducible refine (hcl V.drew (by exact (Below.refl _ _).drew)).mono ?_) | (with_reducible refine (hcl (V.alloc (.cells #[.int .i64 0, .int .i64 0] 24)).drew (by exact ((Below.refl _ _).alloc (Nat.le_refl _) _).drew)).mono ?_))); rintro e v1 ⟨hbc, cu, rfl, hc0, _⟩; replace hbc := undrew8 hbc; have K1 : Below V.heap.size V v1 := (by first | exact hbc | exact ((Below.refl V.heap.size V).alloc (Nat.le_refl _) _).trans (hbc.mono (by simp))); have hc : v1.ownsRow V.heap.size 24 2 cu r.length (rowOf r) := (by first | exact hc0 | exact ownsLow hc0 (show V.heap.size ≤ (V.alloc (.cells #[.int .i64 0, .int .i64 0] 24)).heap.size by simp)); have d1 := dV.keep K1; have u0 := d1.1; have u1 := d1.2.1; have u2 := d1.2.2; have u3 : w.heap.size < v1.heap.size := (by have := K1.size; omega)) | ((refine step_append_lies _ (by rfl) _ _ _ (by rfl) V.heap.size 24 i0 (.agg #[.int .i64 0, .int .i64 0]) 2 16 Try.underlying22 hi hz0 hz1 hz2 rfl (by decide) cu r.length (rowOf r) (by rfl) (by exact own_heap8 (hc.alloc (.cells #[.int .i64 0, .int .i64 0] 24)) rfl) ⟨v1.heap.size, 0, none⟩ 1 1 [.int .i64 0, .int .i64 0] (by rfl) (by rfl) (by exact two_heap (w := v1) _ _ 24 rfl) (two_cell _ _) (by omega) (by unfold maxLen; omega) (by omega) (by have := K1.size; simp; omega) (v1.heap.size + 1) (by simp) ?_; intro gg cp v2 hown2 hgrow hat hlt2; have K2 : Below V.heap.size V v2 := Below.grown (K1.alloc K1.size (.cells #[.int .i64 0, .int .i64 0] 24)) hgrow (by have := K1.size; simp; omega) (fun k hk => by have := (hc.lt k hk).1; omega); have S8 : Sn v2 (.slice (some ⟨gg, 0, none⟩) (r.length + 1) cp) (r ++ [(0, 0)]) := Sn.own (by rw [List.length_append, rowOf_append]; exact hown2); have d2 := dV.keep K2; have e0 := d2.1; have e1 := d2.2.1; have e2 := d2.2.2; have K := K2)) | ((refine step_append_lies _ (by rfl) _ _ _ (by rfl) V.heap.size 24 i0 (.agg #[.int .i64 0, .int .i64 0]) 2 16 Try.underlying22 hi hz0 hz1 hz2 rfl (by decide) cu r.length (rowOf r) (by rfl) (by exact own_heap8 hc rfl) ⟨V.heap.size, 0, none⟩ 1 1 [.int .i64 0, .int .i64 0] (by rfl) (by rfl) (by exact two_below _ _ 24 hbc rfl) (two_cell _ _) (by omega) (by unfold maxLen; omega) (by omega) (by have := K1.size; simp; omega) v1.heap.size (by simp) ?_; intro gg cp v2 hown2 hgrow hat hlt2; have K2 : Below V.heap.size V v2 := Below.grown K1 hgrow (by have := K1.size; simp; omega) (fun k hk => by have := (hc.lt k hk).1; omega); have S8 : Sn v2 (.slice (some ⟨gg, 0, none⟩) (r.length + 1) cp) (r ++ [(0, 0)]) := Sn.own (by rw [List.length_append, rowOf_append]; exact hown2); have d2 := dV.keep K2; have e0 := d2.1; have e1 := d2.2.1; have e2 := d2.2.2; have K := K2)) | (go_simp; go_at_call 12; (with_reducible refine (hw _).mono ?_); rintro e v3 ⟨rfl, hb7⟩; have K3 := K.trans (hb7.mono K.size); have S9 := S8.keep hb7) | (go_simp; go_at_call 13; refine (polyEval_eq S9 E7.out).mono ?_; rintro e v4 ⟨rfl, hb8⟩; have K4 := K3.trans (hb8.mono K3.size); have B8 := BV.keep K4; have y0 := B8.1; have y1 := B8.2.1; have y2 := B8.2.2.1; have y3 := B8.2.2.2; have A8 := AV.keep K4; have z0 := A8.1; have z1 := A8.2.1))
    all_goals
      have aZ := aV.trans (K4.mono aV.size)
      go_wp2
      go_ret
      exact ⟨rfl, by first | exact ((aZ.setCell (p := ⟨w4.heap.size, 0, none⟩) (by simp; omega) _).setCell (p := ⟨w4.heap.size, 1, none⟩) (by simp; omega) _) | (repeat (first | with_reducible exact Below.refl _ _ | with_reducible assumption | refine Below.alloc ?_ (by (try simp); try omega) _ | refine Below.setCell ?_ (by (try simp); try omega) _ | refine below_drewN ?_ _ | refine Below.drew ?_ | (with_reducible refine Below.trans ?_ (Below.mono (by assumption) (by (try simp); try omega)))))⟩
  · obtain ⟨h0, rfl, rfl⟩ := h0
    obtain ⟨g, cap, rfl, hcap, hgl, c0, c1, hcc⟩ := form (by omega)
    obtain ⟨n, hlen⟩ : ∃ n, r.length = n := ⟨_, rfl⟩
    rw [hlen] at hcap h0 ub hl8 ⊢
    have hn1 : n ≤ 1 := by omega
    have hn0 : 0 < n := by omega
    clear h0
    have h7 : n ≤ 7 → r.length ≤ 7 := by omega
    clear form hcc
    have n1 : g ≠ w4.heap.size + 1 := by omega
    have n2 : g ≠ w4.heap.size + 1 + 1 := by omega
    have n3 : g ≠ w4.heap.size := by omega
    have s6 : g < w4.heap.size := by omega
    have s7 : g < w4.heap.size + 1 := by omega
    have s8 : g < w4.heap.size + 1 + 1 := by omega
    have A40 := A4p.1
    have A41 := A4p.2.1
    have s1 : w3.heap.size < w4.heap.size + 1 := by omega
    have s2 : w3.heap.size < w4.heap.size + 1 + 1 := by omega
    have s3 : w.heap.size < w4.heap.size := by omega
    have s4 : w.heap.size < w4.heap.size + 1 := by omega
    have s5 : w.heap.size < w4.heap.size + 1 + 1 := by omega
    have na : w3.heap.size ≠ w4.heap.size := by omega
    have na1 : w3.heap.size ≠ w4.heap.size + 1 := by omega
    have na2 : w3.heap.size ≠ w4.heap.size + 1 + 1 := by omega
    have nd : w.heap.size ≠ w4.heap.size := by omega
    have nd1 : w.heap.size ≠ w4.heap.size + 1 := by omega
    have nd2 : w.heap.size ≠ w4.heap.size + 1 + 1 := by omega
    have d40 := d4p.1
    have d41 := d4p.2.1
    have d42 := d4p.2.2
    replace hlen := Lib.hid hlen
    go_wp2_with fail
    go_at_call 12
    refine (hw _).mono ?_
    rintro e w5 ⟨rfl, hb5⟩
    have A5 := ((A4.alloc _).alloc _).keep hb5
    have B5 := ((B4.alloc _).alloc _).keep hb5
    have d5 := ((d4.keep ((Below.refl _ _).alloc (Nat.le_refl _) _)).keep ((Below.refl _ _).alloc (Nat.le_refl _) _)).keep hb5
    have o5 := ownsBelow ((o4.alloc _).alloc _) hb5
    have a5 : Below w.heap.size w w5 := ((a4.alloc a4.size _).alloc (by have := a4.size; simp at this ⊢; omega) _).trans (hb5.mono (by have := a4.size; simp at this ⊢; omega))
    have l5 : w4.heap.size < w5.heap.size := by have := hb5.size; simp at this; omega
    have S5 : Sn w5 (.slice (some ⟨g, 0, none⟩) n cap) r := by have := Sn.own o5; rw [hlen.out] at this; exact this
    clear A4 B4 d4 o4 a4 hb5 A4p d4p o4p A40 A41 d40 d41 d42 s1 s2 s3 s4 s5 na1 na2 nd nd1 nd2 n1 n2 n3 s6 s7 s8 c0 c1
    go_wp2_with fail
    go_at_call 13
    refine (polyEval_eq S5 X0.out).mono ?_
    rintro e w6 ⟨rfl, hb6⟩
    have A6 := A5.keep hb6
    have B6 := B5.keep hb6
    have d6 := d5.keep hb6
    have o6 := ownsBelow o5 hb6
    have a6 := a5.trans (hb6.mono a5.size)
    have l6 : w4.heap.size < w6.heap.size := by have := hb6.size; omega
    clear A5 B5 d5 o5 a5 hb6 S5 l5
    obtain ⟨p0, p1, p2, p3⟩ := A6
    have A6 : B2F w6 w3.heap.size f0 f1 := ⟨p0, p1, p2, p3⟩
    go_wp2
    have AV := A6.set x0 x1
    have BV := B6.far (c := w3.heap.size) (by omega) (.int .i64 x0) (.int .i64 x1)
    have dV := d6.far (c := w3.heap.size) (by omega) (.int .i64 x0) (.int .i64 x1)
    have oV := own_far o6 (c := w3.heap.size) (fun e => by have := ub _ e; omega) (.int .i64 x0) (.int .i64 x1)
    have aV := (a6.setCell (p := ⟨w3.heap.size, 0, none⟩) (by simp; omega) (.int .i64 x0)).setCell (p := ⟨w3.heap.size, 1, none⟩) (by simp; omega) (.int .i64 x1)
    have lV : w4.heap.size < ((w6.setCell ⟨w3.heap.size, 0, none⟩ (.int .i64 x0)).setCell ⟨w3.heap.size, 1, none⟩ (.int .i64 x1)).heap.size := by simp; omega
    clear A6 B6 d6 o6 a6 p0 p1 p2 p3 l6
    obtain ⟨V, hV⟩ : ∃ V, ((w6.setCell ⟨w3.heap.size, 0, none⟩ (.int .i64 x0)).setCell ⟨w3.heap.size, 1, none⟩ (.int .i64 x1)) = V := ⟨_, rfl⟩
    rw [hV] at AV BV dV oV aV lV ⊢
    clear hV
    have E7 := Lib.hid (M0 (h7 (by omega)))
    have oV' : V.ownsRow w1.heap.size 24 2 (.slice (some ⟨g, 0, none⟩) n cap) r.length (rowOf r) := by rw [← hlen.out]; exact oV
    have hcl := fun W (hb : Below V.heap.size V W) => pyClone_any (.slice (some ⟨g, 0, none⟩) n cap) r w1.heap.size W (ownsBelow oV' hb) (by rw [hlen.out]; exact hl8) (fun h => by have := hlen.out; rw [h] at this; simp at this; omega)
    have hl8' : r.length ≤ 8 := by first | exact hl8 | (rw [hlen.out]; exact hl8)
    have dx0 := dV.1
    have dx1 := dV.2.1
    have dx2 := dV.2.2
    have q1 : w.heap.size < V.heap.size := by omega
    have q2 : w.heap.size ≠ V.heap.size := by omega
    go_region_law (first | (go_simp; go_at_call 17; ((first | (with_reducible refine (hcl V.drew (by exact (Below.refl _ _).drew)).mono ?_) | (with_reducible refine (hcl (V.alloc (.cells #[.int .i64 0, .int .i64 0] 24)).drew (by exact ((Below.refl _ _).alloc (Nat.le_refl _) _).drew)).mono ?_))); rintro e v1 ⟨hbc, cu, rfl, hc0, _⟩; replace hbc := undrew8 hbc; have K1 : Below V.heap.size V v1 := (by first | exact hbc | exact ((Below.refl V.heap.size V).alloc (Nat.le_refl _) _).trans (hbc.mono (by simp))); have hc : v1.ownsRow V.heap.size 24 2 cu r.length (rowOf r) := (by first | exact hc0 | exact ownsLow hc0 (show V.heap.size ≤ (V.alloc (.cells #[.int .i64 0, .int .i64 0] 24)).heap.size by simp)); have d1 := dV.keep K1; have u0 := d1.1; have u1 := d1.2.1; have u2 := d1.2.2; have u3 : w.heap.size < v1.heap.size := (by have := K1.size; omega)) | ((refine step_append_lies _ (by rfl) _ _ _ (by rfl) V.heap.size 24 i0 (.agg #[.int .i64 0, .int .i64 0]) 2 16 Try.underlying22 hi hz0 hz1 hz2 rfl (by decide) cu r.length (rowOf r) (by rfl) (by exact own_heap8 (hc.alloc (.cells #[.int .i64 0, .int .i64 0] 24)) rfl) ⟨v1.heap.size, 0, none⟩ 1 1 [.int .i64 0, .int .i64 0] (by rfl) (by rfl) (by exact two_heap (w := v1) _ _ 24 rfl) (two_cell _ _) (by omega) (by unfold maxLen; omega) (by omega) (by have := K1.size; simp; omega) (v1.heap.size + 1) (by simp) ?_; intro gg cp v2 hown2 hgrow hat hlt2; have K2 : Below V.heap.size V v2 := Below.grown (K1.alloc K1.size (.cells #[.int .i64 0, .int .i64 0] 24)) hgrow (by have := K1.size; simp; omega) (fun k hk => by have := (hc.lt k hk).1; omega); have S8 : Sn v2 (.slice (some ⟨gg, 0, none⟩) (r.length + 1) cp) (r ++ [(0, 0)]) := Sn.own (by rw [List.length_append, rowOf_append]; exact hown2); have d2 := dV.keep K2; have e0 := d2.1; have e1 := d2.2.1; have e2 := d2.2.2; have K := K2)) | ((refine step_append_lies _ (by rfl) _ _ _ (by rfl) V.heap.size 24 i0 (.agg #[.int .i64 0, .int .i64 0]) 2 16 Try.underlying22 hi hz0 hz1 hz2 rfl (by decide) cu r.length (rowOf r) (by rfl) (by exact own_heap8 hc rfl) ⟨V.heap.size, 0, none⟩ 1 1 [.int .i64 0, .int .i64 0] (by rfl) (by rfl) (by exact two_below _ _ 24 hbc rfl) (two_cell _ _) (by omega) (by unfold maxLen; omega) (by omega) (by have := K1.size; simp; omega) v1.heap.size (by simp) ?_; intro gg cp v2 hown2 hgrow hat hlt2; have K2 : Below V.heap.size V v2 := Below.grown K1 hgrow (by have := K1.size; simp; omega) (fun k hk => by have := (hc.lt k hk).1; omega); have S8 : Sn v2 (.slice (some ⟨gg, 0, none⟩) (r.length + 1) cp) (r ++ [(0, 0)]) := Sn.own (by rw [List.length_append, rowOf_append]; exact hown2); have d2 := dV.keep K2; have e0 := d2.1; have e1 := d2.2.1; have e2 := d2.2.2; have K := K2)) | (go_simp; go_at_call 12; (with_reducible refine (hw _).mono ?_); rintro e v3 ⟨rfl, hb7⟩; have K3 := K.trans (hb7.mono K.size); have S9 := S8.keep hb7) | (go_simp; go_at_call 13; refine (polyEval_eq S9 E7.out).mono ?_; rintro e v4 ⟨rfl, hb8⟩; have K4 := K3.trans (hb8.mono K3.size); have B8 := BV.keep K4; have y0 := B8.1; have y1 := B8.2.1; have y2 := B8.2.2.1; have y3 := B8.2.2.2; have A8 := AV.keep K4; have z0 := A8.1; have z1 := A8.2.1))
    all_goals
      have aZ := aV.trans (K4.mono aV.size)
      go_wp2
      go_ret
      exact ⟨rfl, by first | exact ((aZ.setCell (p := ⟨w4.heap.size, 0, none⟩) (by simp; omega) _).setCell (p := ⟨w4.heap.size, 1, none⟩) (by simp; omega) _) | (repeat (first | with_reducible exact Below.refl _ _ | with_reducible assumption | refine Below.alloc ?_ (by (try simp); try omega) _ | refine Below.setCell ?_ (by (try simp); try omega) _ | refine below_drewN ?_ _ | refine Below.drew ?_ | (with_reducible refine Below.trans ?_ (Below.mono (by assumption) (by (try simp); try omega)))))⟩
  · obtain ⟨g, cap, rfl, hcap, hgl, c0, c1, hcc⟩ := form (by omega)
    obtain ⟨c2, c3⟩ := hcc (by omega)
    obtain ⟨n, hlen⟩ : ∃ n, r.length = n := ⟨_, rfl⟩
    rw [hlen] at hcap h0 ub hl8 ⊢
    have h7 : n ≤ 7 → r.length ≤ 7 := by omega
    clear form hcc
    have n1 : g ≠ w4.heap.size + 1 := by omega
    have n2 : g ≠ w4.heap.size + 1 + 1 := by omega
    have n3 : g ≠ w4.heap.size := by omega
    have s6 : g < w4.heap.size := by omega
    have s7 : g < w4.heap.size + 1 := by omega
    have s8 : g < w4.heap.size + 1 + 1 := by omega
    have A40 := A4p.1
    have A41 := A4p.2.1
    have s1 : w3.heap.size < w4.heap.size + 1 := by omega
    have s2 : w3.heap.size < w4.heap.size + 1 + 1 := by omega
    have s3 : w.heap.size < w4.heap.size := by omega
    have s4 : w.heap.size < w4.heap.size + 1 := by omega
    have s5 : w.heap.size < w4.heap.size + 1 + 1 := by omega
    have na : w3.heap.size ≠ w4.heap.size := by omega
    have na1 : w3.heap.size ≠ w4.heap.size + 1 := by omega
    have na2 : w3.heap.size ≠ w4.heap.size + 1 + 1 := by omega
    have nd : w.heap.size ≠ w4.heap.size := by omega
    have nd1 : w.heap.size ≠ w4.heap.size + 1 := by omega
    have nd2 : w.heap.size ≠ w4.heap.size + 1 + 1 := by omega
    have d40 := d4p.1
    have d41 := d4p.2.1
    have d42 := d4p.2.2
    replace hlen := Lib.hid hlen
    by_cases n8 : n = 8
    · have e8 : (((n : Int)) == 8) = true := by simp; omega
      go_wp2
      go_ret
      exact ⟨rfl, by have := a4.size; (repeat (first | with_reducible exact Below.refl _ _ | with_reducible assumption | refine Below.alloc ?_ (by (try simp); try omega) _ | refine Below.setCell ?_ (by (try simp); try omega) _ | refine below_drewN ?_ _ | refine Below.drew ?_ | (with_reducible refine Below.trans ?_ (Below.mono (by assumption) (by (try simp); try omega)))))⟩
    · have e8 : (((n : Int)) == 8) = false := by simp; omega
      go_wp2_with fail
      go_at_call 12
      refine (hw _).mono ?_
      rintro e w5 ⟨rfl, hb5⟩
      have A5 := ((A4.alloc _).alloc _).keep hb5
      have B5 := ((B4.alloc _).alloc _).keep hb5
      have d5 := ((d4.keep ((Below.refl _ _).alloc (Nat.le_refl _) _)).keep ((Below.refl _ _).alloc (Nat.le_refl _) _)).keep hb5
      have o5 := ownsBelow ((o4.alloc _).alloc _) hb5
      have a5 : Below w.heap.size w w5 := ((a4.alloc a4.size _).alloc (by have := a4.size; simp at this ⊢; omega) _).trans (hb5.mono (by have := a4.size; simp at this ⊢; omega))
      have l5 : w4.heap.size < w5.heap.size := by have := hb5.size; simp at this; omega
      have S5 : Sn w5 (.slice (some ⟨g, 0, none⟩) n cap) r := by have := Sn.own o5; rw [hlen.out] at this; exact this
      clear A4 B4 d4 o4 a4 hb5 A4p d4p o4p A40 A41 d40 d41 d42 s1 s2 s3 s4 s5 na1 na2 nd nd1 nd2 n1 n2 n3 s6 s7 s8 c0 c1 c2 c3
      go_wp2_with fail
      go_at_call 13
      refine (polyEval_eq S5 X0.out).mono ?_
      rintro e w6 ⟨rfl, hb6⟩
      have A6 := A5.keep hb6
      have B6 := B5.keep hb6
      have d6 := d5.keep hb6
      have o6 := ownsBelow o5 hb6
      have a6 := a5.trans (hb6.mono a5.size)
      have l6 : w4.heap.size < w6.heap.size := by have := hb6.size; omega
      clear A5 B5 d5 o5 a5 hb6 S5 l5
      obtain ⟨p0, p1, p2, p3⟩ := A6
      have A6 : B2F w6 w3.heap.size f0 f1 := ⟨p0, p1, p2, p3⟩
      go_wp2
      have AV := A6.set x0 x1
      have BV := B6.far (c := w3.heap.size) (by omega) (.int .i64 x0) (.int .i64 x1)
      have dV := d6.far (c := w3.heap.size) (by omega) (.int .i64 x0) (.int .i64 x1)
      have oV := own_far o6 (c := w3.heap.size) (fun e => by have := ub _ e; omega) (.int .i64 x0) (.int .i64 x1)
      have aV := (a6.setCell (p := ⟨w3.heap.size, 0, none⟩) (by simp; omega) (.int .i64 x0)).setCell (p := ⟨w3.heap.size, 1, none⟩) (by simp; omega) (.int .i64 x1)
      have lV : w4.heap.size < ((w6.setCell ⟨w3.heap.size, 0, none⟩ (.int .i64 x0)).setCell ⟨w3.heap.size, 1, none⟩ (.int .i64 x1)).heap.size := by simp; omega
      clear A6 B6 d6 o6 a6 p0 p1 p2 p3 l6
      obtain ⟨V, hV⟩ : ∃ V, ((w6.setCell ⟨w3.heap.size, 0, none⟩ (.int .i64 x0)).setCell ⟨w3.heap.size, 1, none⟩ (.int .i64 x1)) = V := ⟨_, rfl⟩
      rw [hV] at AV BV dV oV aV lV ⊢
      clear hV
      have E7 := Lib.hid (M0 (h7 (by omega)))
      have oV' : V.ownsRow w1.heap.size 24 2 (.slice (some ⟨g, 0, none⟩) n cap) r.length (rowOf r) := by rw [← hlen.out]; exact oV
      have hcl := fun W (hb : Below V.heap.size V W) => pyClone_any (.slice (some ⟨g, 0, none⟩) n cap) r w1.heap.size W (ownsBelow oV' hb) (by rw [hlen.out]; exact hl8) (fun h => by have := hlen.out; rw [h] at this; simp at this; omega)
      have hl8' : r.length ≤ 8 := by first | exact hl8 | (rw [hlen.out]; exact hl8)
      have dx0 := dV.1
      have dx1 := dV.2.1
      have dx2 := dV.2.2
      have q1 : w.heap.size < V.heap.size := by omega
      have q2 : w.heap.size ≠ V.heap.size := by omega
      go_region_law (first | (go_simp; go_at_call 17; ((first | (with_reducible refine (hcl V.drew (by exact (Below.refl _ _).drew)).mono ?_) | (with_reducible refine (hcl (V.alloc (.cells #[.int .i64 0, .int .i64 0] 24)).drew (by exact ((Below.refl _ _).alloc (Nat.le_refl _) _).drew)).mono ?_))); rintro e v1 ⟨hbc, cu, rfl, hc0, _⟩; replace hbc := undrew8 hbc; have K1 : Below V.heap.size V v1 := (by first | exact hbc | exact ((Below.refl V.heap.size V).alloc (Nat.le_refl _) _).trans (hbc.mono (by simp))); have hc : v1.ownsRow V.heap.size 24 2 cu r.length (rowOf r) := (by first | exact hc0 | exact ownsLow hc0 (show V.heap.size ≤ (V.alloc (.cells #[.int .i64 0, .int .i64 0] 24)).heap.size by simp)); have d1 := dV.keep K1; have u0 := d1.1; have u1 := d1.2.1; have u2 := d1.2.2; have u3 : w.heap.size < v1.heap.size := (by have := K1.size; omega)) | ((refine step_append_lies _ (by rfl) _ _ _ (by rfl) V.heap.size 24 i0 (.agg #[.int .i64 0, .int .i64 0]) 2 16 Try.underlying22 hi hz0 hz1 hz2 rfl (by decide) cu r.length (rowOf r) (by rfl) (by exact own_heap8 (hc.alloc (.cells #[.int .i64 0, .int .i64 0] 24)) rfl) ⟨v1.heap.size, 0, none⟩ 1 1 [.int .i64 0, .int .i64 0] (by rfl) (by rfl) (by exact two_heap (w := v1) _ _ 24 rfl) (two_cell _ _) (by omega) (by unfold maxLen; omega) (by omega) (by have := K1.size; simp; omega) (v1.heap.size + 1) (by simp) ?_; intro gg cp v2 hown2 hgrow hat hlt2; have K2 : Below V.heap.size V v2 := Below.grown (K1.alloc K1.size (.cells #[.int .i64 0, .int .i64 0] 24)) hgrow (by have := K1.size; simp; omega) (fun k hk => by have := (hc.lt k hk).1; omega); have S8 : Sn v2 (.slice (some ⟨gg, 0, none⟩) (r.length + 1) cp) (r ++ [(0, 0)]) := Sn.own (by rw [List.length_append, rowOf_append]; exact hown2); have d2 := dV.keep K2; have e0 := d2.1; have e1 := d2.2.1; have e2 := d2.2.2; have K := K2)) | ((refine step_append_lies _ (by rfl) _ _ _ (by rfl) V.heap.size 24 i0 (.agg #[.int .i64 0, .int .i64 0]) 2 16 Try.underlying22 hi hz0 hz1 hz2 rfl (by decide) cu r.length (rowOf r) (by rfl) (by exact own_heap8 hc rfl) ⟨V.heap.size, 0, none⟩ 1 1 [.int .i64 0, .int .i64 0] (by rfl) (by rfl) (by exact two_below _ _ 24 hbc rfl) (two_cell _ _) (by omega) (by unfold maxLen; omega) (by omega) (by have := K1.size; simp; omega) v1.heap.size (by simp) ?_; intro gg cp v2 hown2 hgrow hat hlt2; have K2 : Below V.heap.size V v2 := Below.grown K1 hgrow (by have := K1.size; simp; omega) (fun k hk => by have := (hc.lt k hk).1; omega); have S8 : Sn v2 (.slice (some ⟨gg, 0, none⟩) (r.length + 1) cp) (r ++ [(0, 0)]) := Sn.own (by rw [List.length_append, rowOf_append]; exact hown2); have d2 := dV.keep K2; have e0 := d2.1; have e1 := d2.2.1; have e2 := d2.2.2; have K := K2)) | (go_simp; go_at_call 12; (with_reducible refine (hw _).mono ?_); rintro e v3 ⟨rfl, hb7⟩; have K3 := K.trans (hb7.mono K.size); have S9 := S8.keep hb7) | (go_simp; go_at_call 13; refine (polyEval_eq S9 E7.out).mono ?_; rintro e v4 ⟨rfl, hb8⟩; have K4 := K3.trans (hb8.mono K3.size); have B8 := BV.keep K4; have y0 := B8.1; have y1 := B8.2.1; have y2 := B8.2.2.1; have y3 := B8.2.2.2; have A8 := AV.keep K4; have z0 := A8.1; have z1 := A8.2.1))
      all_goals
        have aZ := aV.trans (K4.mono aV.size)
        go_wp2
        go_ret
        exact ⟨rfl, by first | exact ((aZ.setCell (p := ⟨w4.heap.size, 0, none⟩) (by simp; omega) _).setCell (p := ⟨w4.heap.size, 1, none⟩) (by simp; omega) _) | (repeat (first | with_reducible exact Below.refl _ _ | with_reducible assumption | refine Below.alloc ?_ (by (try simp); try omega) _ | refine Below.setCell ?_ (by (try simp); try omega) _ | refine below_drewN ?_ _ | refine Below.drew ?_ | (with_reducible refine Below.trans ?_ (Below.mono (by assumption) (by (try simp); try omega)))))⟩

end Go.Proofs.Ytdaignklmbmcnaa
