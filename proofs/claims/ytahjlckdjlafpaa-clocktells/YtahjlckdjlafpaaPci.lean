/- What ClockTells does: it answers true. No condition but that the ticks lie in memory. -/
import Derived.Test.YtahjlckdjlafpaaPch
namespace Go.Proofs.Ytahjlckdjlafpaa
open Go.RowKit

theorem refSame_at (A A' : Option Addr) (c c' : Nat) (l l' : List Tk) (v : Bool) (w : World) (h : In w A c l) (h' : In w A' c' l') (hv : decide (l = l') = v) :
    Calls Try.prog 9 #[.slice A l.length c, .slice A' l'.length c'] w (RetV w (.bool v)) := hv ▸ refSame_any A A' c c' l l' w h h'
theorem refIs_at (A : Option Addr) (c : Nat) (l : List Tk) (v : Bool) (w : World) (h : In w A c l) (hv : isC l = v) : Calls Try.prog 7 #[.slice A l.length c] w (RetV w (.bool v)) := hv ▸ refIs_any A c l w h
theorem refOf_at (A : Option Addr) (c : Nat) (l : List Tk) (q v : Int) (w : World) (h : In w A c l) (hv : ofC l q = v) : Calls Try.prog 11 #[.slice A l.length c, .int .i64 q] w (RetV w (.int .u64 v)) :=
  hv ▸ (refOf_any A c l q w h).mono fun _ _ ⟨h1, h2⟩ => ⟨h1, h2 ▸ Below.refl _ _⟩
theorem refCmp_at (A A' : Option Addr) (c c' : Nat) (l l' : List Tk) (v : Int) (w : World) (h : In w A c l) (h' : In w A' c' l') (hv : cmpC l l' = v) :
    Calls Try.prog 17 #[.slice A l.length c, .slice A' l'.length c'] w (RetV w (.int .i64 v)) := hv ▸ refCmp_any A A' c c' l l' w h h'
theorem refUp_at (A : Option Addr) (c : Nat) (l m : List Tk) (q : Int) (w : World) (h : In w A c l) (hlen : l.length ≤ 1000) (hm : upC l q = m) :
    Calls Try.prog 13 #[.slice A l.length c, .int .i64 q] w (RetT w m) := hm ▸ refUp_any A c l q w h hlen
theorem refJoin_at (A A' : Option Addr) (c c' : Nat) (l l' m : List Tk) (w : World) (h : In w A c l) (h' : In w A' c' l') (hn : ∀ y ∈ l', y.n ≠ 0) (hlen : l.length ≤ 100) (hlen' : l'.length ≤ 100) (hm : joinC l l' = m) :
    Calls Try.prog 15 #[.slice A l.length c, .slice A' l'.length c'] w (RetT w m) := hm ▸ refJoin_any A A' c c' l l' w h h' hn hlen hlen'

set_option maxRecDepth 100000 in
set_option maxHeartbeats 4000000 in
theorem clockTells_all (A B : Option Addr) (c d : Nat) (l l' : List Tk) (q : Int) (w : World) (h : In w A c l) (h' : In w B d l') :
    Calls Try.prog 3 #[.slice A l.length c, .slice B l'.length d, .int .i64 q] w (RetV w (.bool true)) := by
  have HW : Hid (Below w.heap.size w w) := Below.refl _ _
  have Ha := Lib.hid h
  have Hb := Lib.hid h'
  clear h h'
  obtain ⟨p, hp⟩ : ∃ p, isC l = p := ⟨_, rfl⟩
  obtain ⟨p', hp'⟩ : ∃ p, isC l' = p := ⟨_, rfl⟩
  obtain ⟨s, hs⟩ : ∃ s, decide (l = l') = s := ⟨_, rfl⟩
  have HP := Lib.hid hp
  have HP' := Lib.hid hp'
  have HS := Lib.hid hs
  clear hp hp' hs
  go_enter Try.func3, Try.ntmps3
  go_wp2_with fail
  refine (known_any _).mono ?_
  rintro e w1 ⟨rfl, hb1⟩
  replace Ha := Lib.hid (Ha.out.later hb1)
  replace Hb := Lib.hid (Hb.out.later hb1)
  replace HW := Lib.hid (HW.out.trans (hb1.mono HW.out.size))
  clear hb1
  go_wp2_with fail
  refine (Is_at A c l p _ Ha.out HP.out).mono ?_
  rintro e w2 ⟨rfl, hb2⟩
  replace Ha := Lib.hid (Ha.out.later hb2)
  replace Hb := Lib.hid (Hb.out.later hb2)
  replace HW := Lib.hid (HW.out.trans (hb2.mono HW.out.size))
  clear hb2
  go_wp2_with fail
  refine (refIs_at A c l p _ Ha.out HP.out).mono ?_
  rintro e w3 ⟨rfl, hb3⟩
  replace Ha := Lib.hid (Ha.out.later hb3)
  replace Hb := Lib.hid (Hb.out.later hb3)
  replace HW := Lib.hid (HW.out.trans (hb3.mono HW.out.size))
  clear hb3
  have hpp : (p == p) = true := by cases p <;> rfl
  have hss : (s == s) = true := by cases s <;> rfl
  go_wp2_with fail
  refine (Same_at A B c d l l' s _ Ha.out Hb.out HS.out).mono ?_
  rintro e w4 ⟨rfl, hb4⟩
  replace Ha := Lib.hid (Ha.out.later hb4)
  replace Hb := Lib.hid (Hb.out.later hb4)
  replace HW := Lib.hid (HW.out.trans (hb4.mono HW.out.size))
  clear hb4
  go_wp2_with fail
  refine (refSame_at A B c d l l' s _ Ha.out Hb.out HS.out).mono ?_
  rintro e w5 ⟨rfl, hb5⟩
  replace Ha := Lib.hid (Ha.out.later hb5)
  replace Hb := Lib.hid (Hb.out.later hb5)
  replace HW := Lib.hid (HW.out.trans (hb5.mono HW.out.size))
  clear hb5
  go_wp2_with fail
  refine (refIs_at A c l p _ Ha.out HP.out).mono ?_
  rintro e w6 ⟨rfl, hb6⟩
  replace Ha := Lib.hid (Ha.out.later hb6)
  replace Hb := Lib.hid (Hb.out.later hb6)
  replace HW := Lib.hid (HW.out.trans (hb6.mono HW.out.size))
  clear hb6
  cases p with
  | false =>
    go_wp2_with fail
    go_ret
    exact ⟨rfl, HW.out⟩
  | true =>
    go_wp2_with fail
    refine (refIs_at B d l' p' _ Hb.out HP'.out).mono ?_
    rintro e w7 ⟨rfl, hb7⟩
    replace Ha := Lib.hid (Ha.out.later hb7)
    replace Hb := Lib.hid (Hb.out.later hb7)
    replace HW := Lib.hid (HW.out.trans (hb7.mono HW.out.size))
    clear hb7
    cases p' with
    | false =>
      go_wp2_with fail
      go_ret
      exact ⟨rfl, HW.out⟩
    | true =>
      by_cases h1 : q < 0
      · go_wp2_with fail
        go_ret
        exact ⟨rfl, HW.out⟩
      · have d1 : decide (q < 0) = false := decide_eq_false h1
        by_cases h2 : 1000000 < q
        · clear h1
          go_wp2_with fail
          go_ret
          exact ⟨rfl, HW.out⟩
        · have d2 : decide (1000000 < q) = false := decide_eq_false h2
          obtain ⟨hl1, hl2, hl3⟩ := isC_out HP.out
          obtain ⟨hm1, hm2, hm3⟩ := isC_out HP'.out
          have HL1 := Lib.hid hl1
          have HL2 := Lib.hid hl2
          have HM1 := Lib.hid hm1
          have HM2 := Lib.hid hm2
          have HM3 := Lib.hid hm3
          obtain ⟨n, hn⟩ : ∃ n, ofC l q = n := ⟨_, rfl⟩
          obtain ⟨u, hu⟩ : ∃ u, upC l q = u := ⟨_, rfl⟩
          obtain ⟨j, hj⟩ : ∃ j, joinC l l' = j := ⟨_, rfl⟩
          obtain ⟨o, ho⟩ : ∃ o, cmpC l l' = o := ⟨_, rfl⟩
          have HN := Lib.hid hn
          have HU := Lib.hid hu
          have HJ := Lib.hid hj
          have HO := Lib.hid ho
          have HJ' : Hid (mergeC l l' = j) := by show mergeC l l' = j; rw [merge_join l l' hm2, hj]
          clear hl1 hl2 hl3 hm1 hm2 hm3 hn hu hj ho h1 h2
          go_wp2_with fail
          refine (Of_at A c l q n _ Ha.out HL2.out (Nat.le_trans HL1.out (by omega)) HN.out).mono ?_
          rintro e w8 ⟨rfl, hb8⟩
          replace Ha := Lib.hid (Ha.out.later hb8)
          replace Hb := Lib.hid (Hb.out.later hb8)
          replace HW := Lib.hid (HW.out.trans (hb8.mono HW.out.size))
          clear hb8
          go_wp2_with fail
          refine (refOf_at A c l q n _ Ha.out HN.out).mono ?_
          rintro e w9 ⟨rfl, hb9⟩
          replace Ha := Lib.hid (Ha.out.later hb9)
          replace Hb := Lib.hid (Hb.out.later hb9)
          replace HW := Lib.hid (HW.out.trans (hb9.mono HW.out.size))
          clear hb9
          have hnn : (n == n) = true := by simp
          go_wp2_with fail
          refine (Up_at A c l u q _ Ha.out HL2.out (Nat.le_trans HL1.out (by omega)) HU.out).mono ?_
          rintro e w10 ⟨A10, c10, rfl, hin, hb10⟩
          replace Ha := Lib.hid (Ha.out.later hb10)
          replace Hb := Lib.hid (Hb.out.later hb10)
          replace HW := Lib.hid (HW.out.trans (hb10.mono HW.out.size))
          clear hb10
          have Hu := Lib.hid hin
          clear hin
          go_wp2_with fail
          refine (refUp_at A c l u q _ Ha.out (Nat.le_trans HL1.out (by omega)) HU.out).mono ?_
          rintro e w11 ⟨A11, c11, rfl, hin, hb11⟩
          replace Ha := Lib.hid (Ha.out.later hb11)
          replace Hb := Lib.hid (Hb.out.later hb11)
          replace Hu := Lib.hid (Hu.out.later hb11)
          replace HW := Lib.hid (HW.out.trans (hb11.mono HW.out.size))
          clear hb11
          have Hv := Lib.hid hin
          clear hin
          go_wp2_with fail
          refine (refSame_at A10 A11 c10 c11 u u true _ Hu.out Hv.out (decide_eq_true rfl)).mono ?_
          rintro e w12 ⟨rfl, hb12⟩
          replace Ha := Lib.hid (Ha.out.later hb12)
          replace Hb := Lib.hid (Hb.out.later hb12)
          replace Hu := Lib.hid (Hu.out.later hb12)
          replace Hv := Lib.hid (Hv.out.later hb12)
          replace HW := Lib.hid (HW.out.trans (hb12.mono HW.out.size))
          clear hb12
          go_wp2_with fail
          refine (Join_at A B c d l l' j _ Ha.out Hb.out (Nat.le_trans HL1.out (by omega)) (Nat.le_trans HM1.out (by omega)) HJ'.out).mono ?_
          rintro e w13 ⟨A13, c13, rfl, hin, hb13⟩
          replace Ha := Lib.hid (Ha.out.later hb13)
          replace Hb := Lib.hid (Hb.out.later hb13)
          replace HW := Lib.hid (HW.out.trans (hb13.mono HW.out.size))
          clear hb13
          have Hj := Lib.hid hin
          clear hin
          go_wp2_with fail
          refine (refJoin_at A B c d l l' j _ Ha.out Hb.out (fun y hy => (HM3.out y hy).2.2) (Nat.le_trans HL1.out (by omega)) (Nat.le_trans HM1.out (by omega)) HJ.out).mono ?_
          rintro e w14 ⟨A14, c14, rfl, hin, hb14⟩
          replace Ha := Lib.hid (Ha.out.later hb14)
          replace Hb := Lib.hid (Hb.out.later hb14)
          replace Hj := Lib.hid (Hj.out.later hb14)
          replace HW := Lib.hid (HW.out.trans (hb14.mono HW.out.size))
          clear hb14
          have Hg := Lib.hid hin
          clear hin
          go_wp2_with fail
          refine (refSame_at A13 A14 c13 c14 j j true _ Hj.out Hg.out (decide_eq_true rfl)).mono ?_
          rintro e w15 ⟨rfl, hb15⟩
          replace Ha := Lib.hid (Ha.out.later hb15)
          replace Hb := Lib.hid (Hb.out.later hb15)
          replace Hj := Lib.hid (Hj.out.later hb15)
          replace Hg := Lib.hid (Hg.out.later hb15)
          replace HW := Lib.hid (HW.out.trans (hb15.mono HW.out.size))
          clear hb15
          go_wp2_with fail
          refine (Cmp_at A B c d l l' o _ Ha.out Hb.out HL2.out HM2.out (Nat.le_trans HL1.out (by omega)) (Nat.le_trans HM1.out (by omega)) HO.out).mono ?_
          rintro e w16 ⟨rfl, hb16⟩
          replace Ha := Lib.hid (Ha.out.later hb16)
          replace Hb := Lib.hid (Hb.out.later hb16)
          replace HW := Lib.hid (HW.out.trans (hb16.mono HW.out.size))
          clear hb16
          go_wp2_with fail
          refine (refCmp_at A B c d l l' o _ Ha.out Hb.out HO.out).mono ?_
          rintro e w17 ⟨rfl, hb17⟩
          replace Ha := Lib.hid (Ha.out.later hb17)
          replace Hb := Lib.hid (Hb.out.later hb17)
          replace HW := Lib.hid (HW.out.trans (hb17.mono HW.out.size))
          clear hb17
          have hoo : (o == o) = true := by simp
          go_wp2_with fail
          go_ret
          exact ⟨rfl, HW.out⟩
end Go.Proofs.Ytahjlckdjlafpaa
