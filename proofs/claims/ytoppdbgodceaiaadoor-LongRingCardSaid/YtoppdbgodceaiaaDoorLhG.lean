/-
  The statements' helper divides.
-/
import Derived.Test.YtoppdbgodceaiaaDoorLhF
namespace Go.Proofs.YtoppdbgodceaiaaDoor
open Go.RowKit

theorem belowDrew (w : World) : Below w.heap.size w w.drew := (Below.refl w.heap.size w).drew
set_option maxRecDepth 100000 in
set_option maxHeartbeats 4000000 in
theorem divides_true (la lb lq lr : List UInt8) (x y : Int) (w : World) (hx : PText la x) (hy : PText lb y) (y0 : y ≠ 0) (hq : PText lq (x.tdiv y)) (hr : PText lr (x.tmod y)) (hP : Pw w) :
    Calls Tryd.prog 61 #[.string ⟨⟨la⟩⟩, .string ⟨⟨lb⟩⟩, .string ⟨⟨lq⟩⟩, .string ⟨⟨lr⟩⟩] w fun e w' => e = .returned (.bool true) ∧ Below w.heap.size w w' := by
  have fx := fun w => of_num la x w hx
  have fy := fun w => of_num lb y w hy
  have fq := is_any ⟨⟨lq⟩⟩
  have fr := is_any ⟨⟨lr⟩⟩
  have dx := hx.len
  have dy := hy.len
  have dq := hq.len
  have dr := hr.len
  have sq := sx_of hq
  have sr := sx_of hr
  clear hx hy hq hr
  have Sq := Lib.hid sq
  have Sr := Lib.hid sr
  clear sq sr
  generalize (⟨⟨la⟩⟩ : ByteArray) = A at *
  generalize (⟨⟨lb⟩⟩ : ByteArray) = B at *
  generalize (⟨⟨lq⟩⟩ : ByteArray) = Q at *
  generalize (⟨⟨lr⟩⟩ : ByteArray) = R at *
  go_enter Tryd.func61, Tryd.ntmps61
  go_wp2_with fail
  go_at_call 58
  refine (fx _).mono ?_
  rintro e u1 ⟨⟨p1, a1, n1, c1, rfl, LA⟩, hb⟩
  have hB := hb
  replace hP := hP.keep hb
  clear hb fx
  go_wp2_with fail
  go_at_call 58
  refine (fy _).mono ?_
  rintro e u2 ⟨⟨p2, a2, n2, c2, rfl, LB⟩, hb⟩
  replace LA := LA.keep hb
  replace hP := hP.keep hb
  replace hB := hB.trans (hb.mono hB.size)
  clear hb fy
  go_wp2_with fail
  go_at_call 38
  refine (div_ok _ _ x y _ LA LB dx dy y0).mono ?_
  rintro e u3 ⟨⟨p3, a3, n3, c3, p4, a4, n4, c4, rfl, LQ, LR⟩, hb⟩
  replace hP := hP.keep hb
  replace hB := hB.trans (hb.mono hB.size)
  clear hb LA LB
  go_wp2_with fail
  have hX : Below u3.heap.size u3 ((u3.alloc (.cells #[.bool p3, .slice a3 n3 c3] 24)).alloc (.cells #[.bool p4, .slice a4 n4 c4] 24)) := by (repeat (first | with_reducible exact Below.refl _ _ | with_reducible assumption | refine Below.alloc ?_ (by (try simp); try omega) _ | refine Below.setCell ?_ (by (try simp); try omega) _ | refine below_drewN ?_ _ | refine Below.drew ?_ | (with_reducible refine Below.trans ?_ (Below.mono (by assumption) (by (try simp); try omega)))))
  have c0 : ((u3.alloc (.cells #[.bool p3, .slice a3 n3 c3] 24)).alloc (.cells #[.bool p4, .slice a4 n4 c4] 24)).cell? ⟨u3.heap.size, 0, none⟩ = some (.bool p3) := by simp [go_sem]
  have c1 : ((u3.alloc (.cells #[.bool p3, .slice a3 n3 c3] 24)).alloc (.cells #[.bool p4, .slice a4 n4 c4] 24)).cell? ⟨u3.heap.size, 1, none⟩ = some (.slice a3 n3 c3) := by simp [go_sem]
  have c2 : ((u3.alloc (.cells #[.bool p3, .slice a3 n3 c3] 24)).alloc (.cells #[.bool p4, .slice a4 n4 c4] 24)).cell? ⟨u3.heap.size + 1, 0, none⟩ = some (.bool p4) := by simp [go_sem]
  have c3' : ((u3.alloc (.cells #[.bool p3, .slice a3 n3 c3] 24)).alloc (.cells #[.bool p4, .slice a4 n4 c4] 24)).cell? ⟨u3.heap.size + 1, 1, none⟩ = some (.slice a4 n4 c4) := by simp [go_sem]
  replace LQ := LQ.keep hX
  replace LR := LR.keep hX
  replace hP := hP.keep hX
  replace hB := hB.trans (hX.mono hB.size)
  clear hX
  generalize ((u3.alloc (.cells #[.bool p3, .slice a3 n3 c3] 24)).alloc (.cells #[.bool p4, .slice a4 n4 c4] 24)) = v0 at *
  generalize u3.heap.size = g at *
  go_region_held3 (fun w' => w'.cell? ⟨g, 0, none⟩ = some (.bool p3) ∧ w'.cell? ⟨g, 1, none⟩ = some (.slice a3 n3 c3) ∧ w'.cell? ⟨g + 1, 0, none⟩ = some (.bool p4) ∧ w'.cell? ⟨g + 1, 1, none⟩ = some (.slice a4 n4 c4))
    ((first | exact ⟨c0, c1, c2, c3'⟩))
    (first | (go_at_call 55; refine (fq _).mono ?_; rintro e u5 ⟨bq, rfl, hsq, hb⟩; have hk : Below v0.heap.size v0 u5 := (by (repeat (first | with_reducible exact Below.refl _ _ | with_reducible assumption | refine Below.alloc ?_ (by (try simp); try omega) _ | refine Below.setCell ?_ (by (try simp); try omega) _ | refine below_drewN ?_ _ | refine Below.drew ?_ | (with_reducible refine Below.trans ?_ (Below.mono (by assumption) (by (try simp); try omega)))))); clear hb fq; replace c0 := lkeep hk c0; replace c1 := lkeep hk c1; replace c2 := lkeep hk c2; replace c3' := lkeep hk c3'; replace LQ := LQ.keep hk; replace LR := LR.keep hk; replace hP := hP.keep hk; replace hB := hB.trans (hk.mono hB.size); clear hk) | (go_at_call 55; refine (fr _).mono ?_; rintro e u7 ⟨br, rfl, hsr, hb⟩; clear fr; replace c0 := lkeep hb c0; replace c1 := lkeep hb c1; replace c2 := lkeep hb c2; replace c3' := lkeep hb c3'; replace LR := LR.keep hb; replace hP := hP.keep hb; replace hB := hB.trans (hb.mono hB.size); clear hb) | (go_at_call 90; refine (is1_true _ _ bq Q _ LQ dq hP hsq Sq.out).mono ?_; rintro e u6 ⟨rfl, hb⟩; clear hsq LQ; replace c0 := lkeep hb c0; replace c1 := lkeep hb c1; replace c2 := lkeep hb c2; replace c3' := lkeep hb c3'; replace LR := LR.keep hb; replace hP := hP.keep hb; replace hB := hB.trans (hb.mono hB.size); clear hb) | (go_at_call 90; refine (is1_true _ _ br R _ LR dr hP hsr Sr.out).mono ?_; rintro e u8 ⟨rfl, hb⟩; clear hsr LR; replace c0 := lkeep hb c0; replace c1 := lkeep hb c1; replace c2 := lkeep hb c2; replace c3' := lkeep hb c3'; replace hP := hP.keep hb; replace hB := hB.trans (hb.mono hB.size); clear hb))
  go_wp2
  go_ret
  exact ⟨rfl, hB⟩
end Go.Proofs.YtoppdbgodceaiaaDoor
