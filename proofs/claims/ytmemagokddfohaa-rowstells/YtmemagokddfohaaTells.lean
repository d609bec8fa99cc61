/- What RowsTells does: it answers true. No condition but that the slices read as strings. -/
import Derived.Test.YtmemagokddfohaaKnown
namespace Go.Proofs.Ytmemagokddfohaa
open Go.RowKit

theorem at_ge {xs : List Str} {s : Str} : decide (0 ≤ atI xs s) = decide (s ∈ xs) := by
  unfold atI
  by_cases h : s ∈ xs
  · rw [if_pos h, decide_eq_true h]; simp
  · rw [if_neg h, decide_eq_false h]; decide

theorem max_of {n : Nat} (h : n ≤ 1000) : n ≤ maxLen := by unfold maxLen; omega

section
variable (A1 A2 A3 : Option Addr) (c1 c2 c3 : Nat) (l a b : List Str) (s : Str) (w : World)

set_option maxRecDepth 100000 in
set_option maxHeartbeats 4000000 in
theorem rowsTells_big (h : 60 < l.length ∨ 60 < a.length ∨ 60 < b.length) (hl1 : l.length ≤ 2 ^ 63 - 1) (hl2 : a.length ≤ 2 ^ 63 - 1) (hl3 : b.length ≤ 2 ^ 63 - 1) :
    Calls Try.prog 3 #[.slice A1 l.length c1, .slice A2 a.length c2, .slice A3 b.length c3, .string (S s)] w (RetV w (.bool true)) := by
  by_cases g1 : 60 < l.length
  · clear h
    go_enter Try.func3, Try.ntmps3
    go_wp2_with fail
    refine (known_any w).mono ?_
    rintro e w1 ⟨rfl, hb⟩
    go_wp2
    go_ret
    exact ⟨rfl, hb⟩
  · by_cases g2 : 60 < a.length
    · clear h
      go_enter Try.func3, Try.ntmps3
      go_wp2_with fail
      refine (known_any w).mono ?_
      rintro e w1 ⟨rfl, hb⟩
      go_wp2
      go_ret
      exact ⟨rfl, hb⟩
    · have g3 : 60 < b.length := by omega
      clear h
      go_enter Try.func3, Try.ntmps3
      go_wp2_with fail
      refine (known_any w).mono ?_
      rintro e w1 ⟨rfl, hb⟩
      go_wp2
      go_ret
      exact ⟨rfl, hb⟩

set_option maxRecDepth 100000 in
set_option maxHeartbeats 4000000 in
theorem rowsTells_small (hl : Lies w A1 l) (ha : Lies w A2 a) (hbb : Lies w A3 b) (n1 : l.length ≤ 60) (n2 : a.length ≤ 60) (n3 : b.length ≤ 60) :
    Calls Try.prog 3 #[.slice A1 l.length c1, .slice A2 a.length c2, .slice A3 b.length c3, .string (S s)] w (RetV w (.bool true)) := by
  obtain ⟨q, hq⟩ : ∃ q, decide (Srt l) = q := ⟨_, rfl⟩
  have HQ := Lib.hid hq
  clear hq
  obtain ⟨x, hx⟩ : ∃ x, sortL a = x := ⟨_, rfl⟩
  obtain ⟨y, hy⟩ : ∃ y, sortL b = y := ⟨_, rfl⟩
  obtain ⟨z, hz⟩ : ∃ z, sortL l = z := ⟨_, rfl⟩
  have sx : Hid (Srt x) := hx ▸ srt_sortL a
  have sy : Hid (Srt y) := hy ▸ srt_sortL b
  have nx : x.length ≤ 60 := by have := sortL_len a; rw [hx] at this; omega
  have ny : y.length ≤ 60 := by have := sortL_len b; rw [hy] at this; omega
  have nz : z.length ≤ 60 := by have := sortL_len l; rw [hz] at this; omega
  obtain ⟨r, hr⟩ : ∃ r, decide (s ∈ x) = r := ⟨_, rfl⟩
  have hge : decide (0 ≤ atI x s) = r := by rw [at_ge, hr]
  have HR := Lib.hid hr
  clear hr
  obtain ⟨t, ht⟩ : ∃ t, decide (Wi x y) = t := ⟨_, rfl⟩
  have HT := Lib.hid ht
  have HX := Lib.hid hx
  have HY := Lib.hid hy
  have HZ := Lib.hid hz
  clear ht hx hy hz
  go_enter Try.func3, Try.ntmps3
  go_wp2_with fail
  refine (known_any w).mono ?_
  rintro e w1 ⟨rfl, hb⟩
  replace hl := hl.below hb
  replace ha := ha.below hb
  replace hbb := hbb.below hb
  go_wp2_with fail
  refine (isV A1 c1 l w1 q hl (max_of (by omega)) HQ.out).mono ?_
  rintro e w2 ⟨rfl, hb2⟩
  replace hl := hl.below hb2
  replace ha := ha.below hb2
  replace hbb := hbb.below hb2
  replace hb := hb.trans (hb2.mono hb.size)
  clear hb2
  go_wp2_with fail
  refine (refRisesV A1 c1 l w2 q hl (max_of (by omega)) HQ.out).mono ?_
  rintro e w3 ⟨rfl, hb3⟩
  replace hl := hl.below hb3
  replace ha := ha.below hb3
  replace hbb := hbb.below hb3
  replace hb := hb.trans (hb3.mono hb.size)
  clear hb3
  go_wp2_with fail
  refine (callL (Below.refl _ w3) HZ.out (sort_any A1 c1 l w3 hl (by omega))).mono ?_
  rintro e w4 ⟨B1, d1, rfl, e1, f1, hz1, hb4⟩
  replace hl := hl.below hb4
  replace ha := ha.below hb4
  replace hbb := hbb.below hb4
  replace hb := hb.trans (hb4.mono hb.size)
  clear hb4
  go_wp2_with fail
  refine (callL (Below.refl _ w4) HZ.out (refSort_any A1 c1 l w4 hl (by omega))).mono ?_
  rintro e w5 ⟨B2, d2, rfl, e2, f2, hz2, hb5⟩
  replace hl := hl.below hb5
  replace ha := ha.below hb5
  replace hbb := hbb.below hb5
  replace hz1 := hz1.below hb5
  replace hb := hb.trans (hb5.mono hb.size)
  clear hb5
  go_wp2_with fail
  refine (sameV B1 B2 d1 d2 z z w5 true hz1 hz2 (max_of (by omega)) (by simp)).mono ?_
  rintro e w6 ⟨rfl, hb6⟩
  replace ha := ha.below hb6
  replace hbb := hbb.below hb6
  replace hb := hb.trans (hb6.mono hb.size)
  clear hb6
  clear hz1 hz2 e1 f1 e2 f2 hl
  go_wp2_with fail
  refine (callL (Below.refl _ w6) HX.out (refSort_any A2 c2 a w6 ha (by omega))).mono ?_
  rintro e w7 ⟨X, cx, rfl, ex, fx, lx, hb7⟩
  replace hbb := hbb.below hb7
  replace hb := hb.trans (hb7.mono hb.size)
  clear hb7
  go_wp2_with fail
  refine (callL (Below.refl _ w7) HY.out (refSort_any A3 c3 b w7 hbb (by omega))).mono ?_
  rintro e w8 ⟨Y, cy, rfl, ey, fy, ly, hb8⟩
  replace lx := lx.below hb8
  replace hb := hb.trans (hb8.mono hb.size)
  clear hb8
  clear ha hbb
  go_wp2_with fail
  refine (hasV X cx x s w8 r lx sx.out (by omega) HR.out).mono ?_
  rintro e w9 ⟨rfl, hb9⟩
  replace lx := lx.below hb9
  replace ly := ly.below hb9
  replace hb := hb.trans (hb9.mono hb.size)
  clear hb9
  go_wp2_with fail
  refine (atV X cx x s w9 lx (max_of (by omega))).mono ?_
  rintro e w10 ⟨rfl, hb10⟩
  replace lx := lx.below hb10
  replace ly := ly.below hb10
  replace hb := hb.trans (hb10.mono hb.size)
  clear hb10
  go_wp2_with fail
  refine (callL (Below.refl _ w10) rfl (With_any X cx x s w10 lx sx.out ex fx (by omega))).mono ?_
  rintro e w11 ⟨B3, d3, rfl, e3, f3, l3, hb11⟩
  replace lx := lx.below hb11
  replace ly := ly.below hb11
  replace hb := hb.trans (hb11.mono hb.size)
  clear hb11
  go_wp2_with fail
  refine (callL (Below.refl _ w11) rfl (put_any X cx x s w11 lx (by omega) ex fx)).mono ?_
  rintro e w12 ⟨B4, d4, rfl, e4, f4, l4, hb12⟩
  replace lx := lx.below hb12
  replace ly := ly.below hb12
  replace l3 := l3.below hb12
  replace hb := hb.trans (hb12.mono hb.size)
  clear hb12
  go_wp2_with fail
  refine (sameV B3 B4 d3 d4 (putL s x) (putL s x) w12 true l3 l4 (max_of (by have := putL_len s x; omega)) (by simp)).mono ?_
  rintro e w13 ⟨rfl, hb13⟩
  replace lx := lx.below hb13
  replace ly := ly.below hb13
  replace hb := hb.trans (hb13.mono hb.size)
  clear hb13
  clear l3 l4 e3 e4 f3 f4
  go_wp2_with fail
  refine (callL (Below.refl _ w13) rfl (Without_any X cx x s w13 lx sx.out ex fx (by omega))).mono ?_
  rintro e w14 ⟨B5, d5, rfl, e5, f5, l5, hb14⟩
  replace lx := lx.below hb14
  replace ly := ly.below hb14
  replace hb := hb.trans (hb14.mono hb.size)
  clear hb14
  go_wp2_with fail
  refine (callL (Below.refl _ w14) rfl (refWithout_any X cx x s w14 lx (by omega))).mono ?_
  rintro e w15 ⟨B6, d6, rfl, e6, f6, l6, hb15⟩
  replace lx := lx.below hb15
  replace ly := ly.below hb15
  replace l5 := l5.below hb15
  replace hb := hb.trans (hb15.mono hb.size)
  clear hb15
  go_wp2_with fail
  refine (sameV B5 B6 d5 d6 (lessL s x) (lessL s x) w15 true l5 l6 (max_of (by have := lessL_len s x; omega)) (by simp)).mono ?_
  rintro e w16 ⟨rfl, hb16⟩
  replace lx := lx.below hb16
  replace ly := ly.below hb16
  replace hb := hb.trans (hb16.mono hb.size)
  clear hb16
  clear l5 l6 e5 e6 f5 f6
  go_wp2_with fail
  refine (callL (Below.refl _ w16) rfl (Both_any X Y cx cy x y w16 lx ly sx.out sy.out ex ey fx fy (by omega) (by omega))).mono ?_
  rintro e w17 ⟨B7, d7, rfl, e7, f7, l7, hb17⟩
  replace lx := lx.below hb17
  replace ly := ly.below hb17
  replace hb := hb.trans (hb17.mono hb.size)
  clear hb17
  go_wp2_with fail
  refine (callL (Below.refl _ w17) rfl (refBoth_any X Y cx cy x y w17 lx ly (by omega) (by omega))).mono ?_
  rintro e w18 ⟨B8, d8, rfl, e8, f8, l8, hb18⟩
  replace lx := lx.below hb18
  replace ly := ly.below hb18
  replace l7 := l7.below hb18
  replace hb := hb.trans (hb18.mono hb.size)
  clear hb18
  go_wp2_with fail
  refine (sameV B7 B8 d7 d8 (bothL x y) (bothL x y) w18 true l7 l8 (max_of (by have := bothL_len x y; omega)) (by simp)).mono ?_
  rintro e w19 ⟨rfl, hb19⟩
  replace lx := lx.below hb19
  replace ly := ly.below hb19
  replace hb := hb.trans (hb19.mono hb.size)
  clear hb19
  clear l7 l8 e7 e8 f7 f8
  go_wp2_with fail
  refine (withinV X Y cx cy x y w19 t lx ly sx.out sy.out ex ey fx fy HT.out).mono ?_
  rintro e w20 ⟨rfl, hb20⟩
  replace lx := lx.below hb20
  replace ly := ly.below hb20
  replace hb := hb.trans (hb20.mono hb.size)
  clear hb20
  go_wp2_with fail
  refine (refWithinV X Y cx cy x y w20 t lx ly (max_of (by omega)) (max_of (by omega)) HT.out).mono ?_
  rintro e w21 ⟨rfl, hb21⟩
  replace lx := lx.below hb21
  replace ly := ly.below hb21
  replace hb := hb.trans (hb21.mono hb.size)
  clear hb21
  go_wp2
  go_ret
  exact ⟨rfl, hb⟩

theorem rowsTells_all (hl : Lies w A1 l) (ha : Lies w A2 a) (hbb : Lies w A3 b) (k1 : l.length ≤ c1) (k2 : a.length ≤ c2) (k3 : b.length ≤ c3) (m1 : c1 ≤ maxLen) (m2 : c2 ≤ maxLen) (m3 : c3 ≤ maxLen) :
    Calls Try.prog 3 #[.slice A1 l.length c1, .slice A2 a.length c2, .slice A3 b.length c3, .string (S s)] w (RetV w (.bool true)) := by
  unfold maxLen at m1 m2 m3
  by_cases h : 60 < l.length ∨ 60 < a.length ∨ 60 < b.length
  · exact rowsTells_big A1 A2 A3 c1 c2 c3 l a b s w h (by omega) (by omega) (by omega)
  · exact rowsTells_small A1 A2 A3 c1 c2 c3 l a b s w hl ha hbb (by omega) (by omega) (by omega)
end
end Go.Proofs.Ytmemagokddfohaa
