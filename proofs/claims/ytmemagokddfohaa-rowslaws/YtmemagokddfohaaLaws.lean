/- What RowsLaws does: it answers true. No condition but that the slices read as strings. -/
import Derived.Test.YtmemagokddfohaaKnown
namespace Go.Proofs.Ytmemagokddfohaa
open Go.RowKit

theorem max_of2 {n : Nat} (h : n ≤ 1000) : n ≤ maxLen := by unfold maxLen; omega

theorem both_comm {x y : List Str} (hx : Srt x) (hy : Srt y) : bothL y x = bothL x y :=
  srt_ext (srt_bothL hy) (srt_bothL hx) fun z => by rw [mem_bothL, mem_bothL, or_comm]
theorem both_assoc {x y z : List Str} (hx : Srt x) : bothL (bothL x y) z = bothL x (bothL y z) :=
  srt_ext (srt_bothL (srt_bothL hx)) (srt_bothL hx) fun t => by rw [mem_bothL, mem_bothL, mem_bothL, mem_bothL, or_assoc]
theorem both_self {x : List Str} (hx : Srt x) : bothL x x = x :=
  srt_ext (srt_bothL hx) hx fun z => by rw [mem_bothL, or_self]
theorem within_both {x y : List Str} : Wi x (bothL x y) := fun _ h => mem_bothL.2 (.inl h)
theorem within_iff {x y : List Str} (hx : Srt x) (hy : Srt y) : decide (bothL x y = y) = decide (Wi x y) := by
  by_cases h : Wi x y
  · rw [decide_eq_true h, decide_eq_true]
    exact srt_ext (srt_bothL hx) hy fun z => by rw [mem_bothL]; exact ⟨fun k => k.elim (h z) id, .inr⟩
  · rw [decide_eq_false h, decide_eq_false]
    intro e
    exact h fun z hz => by rw [← e]; exact mem_bothL.2 (.inl hz)

section
variable (A1 A2 A3 : Option Addr) (c1 c2 c3 : Nat) (l a b : List Str) (s : Str) (w : World)

set_option maxRecDepth 100000 in
set_option maxHeartbeats 4000000 in
theorem rowsLaws_big (h : 40 < l.length ∨ 40 < a.length ∨ 40 < b.length) (hl1 : l.length ≤ 2 ^ 63 - 1) (hl2 : a.length ≤ 2 ^ 63 - 1) (hl3 : b.length ≤ 2 ^ 63 - 1) :
    Calls Try.prog 4 #[.slice A1 l.length c1, .slice A2 a.length c2, .slice A3 b.length c3, .string (S s)] w (RetV w (.bool true)) := by
  by_cases g1 : 40 < l.length
  · clear h
    go_enter Try.func4, Try.ntmps4
    go_wp2_with fail
    refine (known_any w).mono ?_
    rintro e w1 ⟨rfl, hb⟩
    go_wp2
    go_ret
    exact ⟨rfl, hb⟩
  · by_cases g2 : 40 < a.length
    · clear h
      go_enter Try.func4, Try.ntmps4
      go_wp2_with fail
      refine (known_any w).mono ?_
      rintro e w1 ⟨rfl, hb⟩
      go_wp2
      go_ret
      exact ⟨rfl, hb⟩
    · have g3 : 40 < b.length := by omega
      clear h
      go_enter Try.func4, Try.ntmps4
      go_wp2_with fail
      refine (known_any w).mono ?_
      rintro e w1 ⟨rfl, hb⟩
      go_wp2
      go_ret
      exact ⟨rfl, hb⟩

set_option maxRecDepth 100000 in
set_option maxHeartbeats 4000000 in
theorem rowsLaws_small (hl : Lies w A1 l) (ha : Lies w A2 a) (hbb : Lies w A3 b) (n1 : l.length ≤ 40) (n2 : a.length ≤ 40) (n3 : b.length ≤ 40) :
    Calls Try.prog 4 #[.slice A1 l.length c1, .slice A2 a.length c2, .slice A3 b.length c3, .string (S s)] w (RetV w (.bool true)) := by
  obtain ⟨x, hx⟩ : ∃ x, sortL l = x := ⟨_, rfl⟩
  obtain ⟨y, hy⟩ : ∃ y, sortL a = y := ⟨_, rfl⟩
  obtain ⟨z, hz⟩ : ∃ z, sortL b = z := ⟨_, rfl⟩
  have sx : Hid (Srt x) := hx ▸ srt_sortL l
  have sy : Hid (Srt y) := hy ▸ srt_sortL a
  have sz : Hid (Srt z) := hz ▸ srt_sortL b
  have nx : x.length ≤ 40 := by have := sortL_len l; rw [hx] at this; omega
  have ny : y.length ≤ 40 := by have := sortL_len a; rw [hy] at this; omega
  have nz : z.length ≤ 40 := by have := sortL_len b; rw [hz] at this; omega
  have HX := Lib.hid hx
  have HY := Lib.hid hy
  have HZ := Lib.hid hz
  obtain ⟨u, hu⟩ : ∃ u, bothL x y = u := ⟨_, rfl⟩
  have su : Hid (Srt u) := hu ▸ srt_bothL sx.out
  have nu : u.length ≤ 80 := by have := bothL_len x y; rw [hu] at this; omega
  have HU := Lib.hid hu
  have HU2 : Hid (bothL y x = u) := hu ▸ both_comm sx.out sy.out
  have hwu : Hid (Wi x u) := hu ▸ within_both
  obtain ⟨t, ht⟩ : ∃ t, decide (Wi x y) = t := ⟨_, rfl⟩
  have HT := Lib.hid ht
  have HT2 : Hid (decide (u = y) = t) := by
    show _ = _
    rw [← ht, ← hu]
    exact within_iff sx.out sy.out
  obtain ⟨v, hv⟩ : ∃ v, bothL u z = v := ⟨_, rfl⟩
  have nv : v.length ≤ 120 := by have := bothL_len u z; rw [hv] at this; omega
  have HV := Lib.hid hv
  obtain ⟨q, hq⟩ : ∃ q, bothL y z = q := ⟨_, rfl⟩
  have sq : Hid (Srt q) := hq ▸ srt_bothL sy.out
  have nq : q.length ≤ 80 := by have := bothL_len y z; rw [hq] at this; omega
  have HQ := Lib.hid hq
  have HV2 : Hid (bothL x q = v) := by
    show _ = _
    rw [← hv, ← hu, ← hq]
    exact (both_assoc sx.out).symm
  have HXX : Hid (bothL x x = x) := both_self sx.out
  obtain ⟨p, hp⟩ : ∃ p, putL s x = p := ⟨_, rfl⟩
  have sp : Hid (Srt p) := hp ▸ srt_putL sx.out
  have np : p.length ≤ x.length + 1 := by have := putL_len s x; rw [hp] at this; omega
  have HP := Lib.hid hp
  have hmp : Hid (s ∈ p) := hp ▸ mem_putL.2 (.inl rfl)
  obtain ⟨r, hr⟩ : ∃ r, lessL s p = r := ⟨_, rfl⟩
  have sr : Hid (Srt r) := hr ▸ srt_lessL sp.out
  have nr : r.length ≤ 60 := by have := lessL_len s p; rw [hr] at this; omega
  have HR := Lib.hid hr
  have hmr : Hid (s ∉ r) := hr ▸ fun k => (mem_lessL.1 k).2 rfl
  clear hx hy hz hu ht hv hq hp hr
  go_enter Try.func4, Try.ntmps4
  go_wp2_with fail
  refine (known_any w).mono ?_
  rintro e w1 ⟨rfl, hb⟩
  replace hl := hl.below hb
  replace ha := ha.below hb
  replace hbb := hbb.below hb
  go_wp2_with fail
  refine (callL (Below.refl _ w1) HX.out (sort_any A1 c1 l w1 hl (by omega))).mono ?_
  rintro e w2 ⟨X, cx, rfl, ex, fx, lx, hb2⟩
  replace ha := ha.below hb2
  replace hbb := hbb.below hb2
  replace hb := hb.trans (hb2.mono hb.size)
  clear hb2
  go_wp2_with fail
  refine (callL (Below.refl _ w2) HY.out (sort_any A2 c2 a w2 ha (by omega))).mono ?_
  rintro e w3 ⟨Y, cy, rfl, ey, fy, ly, hb3⟩
  replace hbb := hbb.below hb3
  replace lx := lx.below hb3
  replace hb := hb.trans (hb3.mono hb.size)
  clear hb3
  go_wp2_with fail
  refine (callL (Below.refl _ w3) HZ.out (sort_any A3 c3 b w3 hbb (by omega))).mono ?_
  rintro e w4 ⟨Z, cz, rfl, ez, fz, lz, hb4⟩
  replace lx := lx.below hb4
  replace ly := ly.below hb4
  replace hb := hb.trans (hb4.mono hb.size)
  clear hb4
  clear hl ha hbb
  go_wp2_with fail
  refine (callL (Below.refl _ w4) HU.out (Both_any X Y cx cy x y w4 lx ly sx.out sy.out ex ey fx fy (by omega) (by omega))).mono ?_
  rintro e w5 ⟨U, cu, rfl, eu, fu, lu, hb5⟩
  replace lx := lx.below hb5
  replace ly := ly.below hb5
  replace lz := lz.below hb5
  replace hb := hb.trans (hb5.mono hb.size)
  clear hb5
  go_wp2_with fail
  refine (callL (Below.refl _ w5) HP.out (With_any X cx x s w5 lx sx.out ex fx (by omega))).mono ?_
  rintro e w6 ⟨P, cp, rfl, ep, fp, lp, hb6⟩
  replace lx := lx.below hb6
  replace ly := ly.below hb6
  replace lz := lz.below hb6
  replace lu := lu.below hb6
  replace hb := hb.trans (hb6.mono hb.size)
  clear hb6
  go_wp2_with fail
  refine (callL (Below.refl _ w6) HU2.out (Both_any Y X cy cx y x w6 ly lx sy.out sx.out ey ex fy fx (by omega) (by omega))).mono ?_
  rintro e w7 ⟨B1, d1, rfl, e1, f1, l1, hb7⟩
  replace lx := lx.below hb7
  replace ly := ly.below hb7
  replace lz := lz.below hb7
  replace lu := lu.below hb7
  replace lp := lp.below hb7
  replace hb := hb.trans (hb7.mono hb.size)
  clear hb7
  go_wp2_with fail
  refine (sameV U B1 cu d1 u u w7 true lu l1 (max_of2 (by omega)) (by simp)).mono ?_
  rintro e w8 ⟨rfl, hb8⟩
  replace lx := lx.below hb8
  replace ly := ly.below hb8
  replace lz := lz.below hb8
  replace lu := lu.below hb8
  replace lp := lp.below hb8
  replace hb := hb.trans (hb8.mono hb.size)
  clear hb8
  clear l1 e1 f1
  go_wp2_with fail
  refine (callL (Below.refl _ w8) HV.out (Both_any U Z cu cz u z w8 lu lz su.out sz.out eu ez fu fz (by omega) (by omega))).mono ?_
  rintro e w9 ⟨B2, d2, rfl, e2, f2, l2, hb9⟩
  replace lx := lx.below hb9
  replace ly := ly.below hb9
  replace lz := lz.below hb9
  replace lu := lu.below hb9
  replace lp := lp.below hb9
  replace hb := hb.trans (hb9.mono hb.size)
  clear hb9
  go_wp2_with fail
  refine (callL (Below.refl _ w9) HQ.out (Both_any Y Z cy cz y z w9 ly lz sy.out sz.out ey ez fy fz (by omega) (by omega))).mono ?_
  rintro e w10 ⟨Q, cq, rfl, eq, fq, lq, hb10⟩
  replace lx := lx.below hb10
  replace ly := ly.below hb10
  replace lz := lz.below hb10
  replace lu := lu.below hb10
  replace lp := lp.below hb10
  replace l2 := l2.below hb10
  replace hb := hb.trans (hb10.mono hb.size)
  clear hb10
  go_wp2_with fail
  refine (callL (Below.refl _ w10) HV2.out (Both_any X Q cx cq x q w10 lx lq sx.out sq.out ex eq fx fq (by omega) (by omega))).mono ?_
  rintro e w11 ⟨B3, d3, rfl, e3, f3, l3, hb11⟩
  replace lx := lx.below hb11
  replace ly := ly.below hb11
  replace lz := lz.below hb11
  replace lu := lu.below hb11
  replace lp := lp.below hb11
  replace l2 := l2.below hb11
  replace hb := hb.trans (hb11.mono hb.size)
  clear hb11
  go_wp2_with fail
  refine (sameV B2 B3 d2 d3 v v w11 true l2 l3 (max_of2 (by omega)) (by simp)).mono ?_
  rintro e w12 ⟨rfl, hb12⟩
  replace lx := lx.below hb12
  replace ly := ly.below hb12
  replace lz := lz.below hb12
  replace lu := lu.below hb12
  replace lp := lp.below hb12
  replace hb := hb.trans (hb12.mono hb.size)
  clear hb12
  clear l2 e2 f2 l3 e3 f3 lq eq fq
  go_wp2_with fail
  refine (callL (Below.refl _ w12) HXX.out (Both_any X X cx cx x x w12 lx lx sx.out sx.out ex ex fx fx (by omega) (by omega))).mono ?_
  rintro e w13 ⟨B4, d4, rfl, e4, f4, l4, hb13⟩
  replace lx := lx.below hb13
  replace ly := ly.below hb13
  replace lz := lz.below hb13
  replace lu := lu.below hb13
  replace lp := lp.below hb13
  replace hb := hb.trans (hb13.mono hb.size)
  clear hb13
  go_wp2_with fail
  refine (sameV B4 X d4 cx x x w13 true l4 lx (max_of2 (by omega)) (by simp)).mono ?_
  rintro e w14 ⟨rfl, hb14⟩
  replace lx := lx.below hb14
  replace ly := ly.below hb14
  replace lz := lz.below hb14
  replace lu := lu.below hb14
  replace lp := lp.below hb14
  replace hb := hb.trans (hb14.mono hb.size)
  clear hb14
  clear l4 e4 f4
  go_wp2_with fail
  refine (withinV X U cx cu x u w14 true lx lu sx.out su.out ex eu fx fu (decide_eq_true hwu.out)).mono ?_
  rintro e w15 ⟨rfl, hb15⟩
  replace lx := lx.below hb15
  replace ly := ly.below hb15
  replace lz := lz.below hb15
  replace lu := lu.below hb15
  replace lp := lp.below hb15
  replace hb := hb.trans (hb15.mono hb.size)
  clear hb15
  go_wp2_with fail
  refine (isV U cu u w15 true lu (max_of2 (by omega)) (decide_eq_true su.out)).mono ?_
  rintro e w16 ⟨rfl, hb16⟩
  replace lx := lx.below hb16
  replace ly := ly.below hb16
  replace lz := lz.below hb16
  replace lu := lu.below hb16
  replace lp := lp.below hb16
  replace hb := hb.trans (hb16.mono hb.size)
  clear hb16
  go_wp2_with fail
  refine (hasV P cp p s w16 true lp sp.out (by omega) (decide_eq_true hmp.out)).mono ?_
  rintro e w17 ⟨rfl, hb17⟩
  replace lx := lx.below hb17
  replace ly := ly.below hb17
  replace lz := lz.below hb17
  replace lu := lu.below hb17
  replace lp := lp.below hb17
  replace hb := hb.trans (hb17.mono hb.size)
  clear hb17
  go_wp2_with fail
  refine (callL (Below.refl _ w17) HR.out (Without_any P cp p s w17 lp sp.out ep fp (by omega))).mono ?_
  rintro e w18 ⟨B5, d5, rfl, e5, f5, l5, hb18⟩
  replace lx := lx.below hb18
  replace ly := ly.below hb18
  replace lz := lz.below hb18
  replace lu := lu.below hb18
  replace lp := lp.below hb18
  replace hb := hb.trans (hb18.mono hb.size)
  clear hb18
  go_wp2_with fail
  refine (hasV B5 d5 r s w18 false l5 sr.out (by omega) (decide_eq_false hmr.out)).mono ?_
  rintro e w19 ⟨rfl, hb19⟩
  replace lx := lx.below hb19
  replace ly := ly.below hb19
  replace lz := lz.below hb19
  replace lu := lu.below hb19
  replace lp := lp.below hb19
  replace hb := hb.trans (hb19.mono hb.size)
  clear hb19
  clear l5 e5 f5
  go_wp2_with fail
  refine (withinV X Y cx cy x y w19 t lx ly sx.out sy.out ex ey fx fy HT.out).mono ?_
  rintro e w20 ⟨rfl, hb20⟩
  replace lx := lx.below hb20
  replace ly := ly.below hb20
  replace lz := lz.below hb20
  replace lu := lu.below hb20
  replace lp := lp.below hb20
  replace hb := hb.trans (hb20.mono hb.size)
  clear hb20
  go_wp2_with fail
  refine (sameV U Y cu cy u y w20 t lu ly (max_of2 (by omega)) HT2.out).mono ?_
  rintro e w21 ⟨rfl, hb21⟩
  replace lx := lx.below hb21
  replace ly := ly.below hb21
  replace lz := lz.below hb21
  replace lu := lu.below hb21
  replace lp := lp.below hb21
  replace hb := hb.trans (hb21.mono hb.size)
  clear hb21
  go_wp2
  go_ret
  exact ⟨ret_bool (decide_eq_true (by omega)), hb⟩

theorem rowsLaws_all (hl : Lies w A1 l) (ha : Lies w A2 a) (hbb : Lies w A3 b) (k1 : l.length ≤ c1) (k2 : a.length ≤ c2) (k3 : b.length ≤ c3) (m1 : c1 ≤ maxLen) (m2 : c2 ≤ maxLen) (m3 : c3 ≤ maxLen) :
    Calls Try.prog 4 #[.slice A1 l.length c1, .slice A2 a.length c2, .slice A3 b.length c3, .string (S s)] w (RetV w (.bool true)) := by
  unfold maxLen at m1 m2 m3
  by_cases h : 40 < l.length ∨ 40 < a.length ∨ 40 < b.length
  · exact rowsLaws_big A1 A2 A3 c1 c2 c3 l a b s w h (by omega) (by omega) (by omega)
  · exact rowsLaws_small A1 A2 A3 c1 c2 c3 l a b s w hl ha hbb (by omega) (by omega) (by omega)
end
end Go.Proofs.Ytmemagokddfohaa
