/- What trefoillaw3.known does: it answers true. No condition. -/
import Derived.Test.YtahjlckdjlafpaaPcg
namespace Go.Proofs.Ytahjlckdjlafpaa
open Go.RowKit

theorem Up_at (A : Option Addr) (c : Nat) (l m : List Tk) (q : Int) (w : World) (h : In w A c l) (ha : Asc l) (hlen : l.length ≤ 1000) (hm : upC l q = m) :
    Calls Try.prog 12 #[.slice A l.length c, .int .i64 q] w (RetT w m) := hm ▸ Up_any A c l q w h ha hlen
theorem Join_at (A B : Option Addr) (c d : Nat) (l l' m : List Tk) (w : World) (h : In w A c l) (h' : In w B d l') (hlen : l.length ≤ 1000) (hlen' : l'.length ≤ 1000) (hm : mergeC l l' = m) :
    Calls Try.prog 14 #[.slice A l.length c, .slice B l'.length d] w (RetT w m) := hm ▸ Join_any A B c d l l' w h h' hlen hlen'
theorem Is_at (A : Option Addr) (c : Nat) (l : List Tk) (v : Bool) (w : World) (h : In w A c l) (hv : isC l = v) : Calls Try.prog 6 #[.slice A l.length c] w (RetV w (.bool v)) := hv ▸ Is_any A c l w h
theorem Of_at (A : Option Addr) (c : Nat) (l : List Tk) (q v : Int) (w : World) (h : In w A c l) (ha : Asc l) (hlen : l.length ≤ 1000) (hv : ofC l q = v) :
    Calls Try.prog 10 #[.slice A l.length c, .int .i64 q] w (RetV w (.int .u64 v)) := hv ▸ Of_any A c l q w h ha hlen
theorem Cmp_at (A A' : Option Addr) (c c' : Nat) (l l' : List Tk) (v : Int) (w : World) (h : In w A c l) (h' : In w A' c' l') (ha : Asc l) (ha' : Asc l') (hlen : l.length ≤ 1000) (hlen' : l'.length ≤ 1000) (hv : cmpC l l' = v) :
    Calls Try.prog 16 #[.slice A l.length c, .slice A' l'.length c'] w (RetV w (.int .i64 v)) := hv ▸ Cmp_any A A' c c' l l' w h h' ha ha' hlen hlen'
theorem Same_at (A A' : Option Addr) (c c' : Nat) (l l' : List Tk) (v : Bool) (w : World) (h : In w A c l) (h' : In w A' c' l') (hv : decide (l = l') = v) :
    Calls Try.prog 8 #[.slice A l.length c, .slice A' l'.length c'] w (RetV w (.bool v)) := hv ▸ Same_any A A' c c' l l' w h h'

theorem merge_known : mergeC [⟨1, 1⟩, ⟨3, 1⟩] [⟨3, 2⟩] = [⟨1, 1⟩, ⟨3, 2⟩] := by
  rw [mergeC_lt _ _ (by decide), mergeC_eq _ _ (by decide), mergeC_nil_left]; rfl

set_option maxRecDepth 100000 in
set_option maxHeartbeats 2000000 in
theorem known_any (w : World) : Calls Try.prog 5 #[] w (RetV w (.bool true)) := by
  have HW : Hid (Below w.heap.size w w) := Below.refl _ _
  go_enter Try.func5, Try.ntmps5
  go_wp2_with fail
  refine (Up_at none 0 [] [⟨3, 1⟩] 3 w (In.nil w) (by decide) (by decide) (by decide)).mono ?_
  rintro e w1 ⟨A1, c1, rfl, hin, hb1⟩
  replace HW := Lib.hid (HW.out.trans (hb1.mono HW.out.size))
  clear hb1
  have Ha := Lib.hid hin
  clear hin
  simp only [List.length_cons, List.length_nil, Nat.zero_add]
  go_wp2_with fail
  refine (Up_at A1 c1 [⟨3, 1⟩] [⟨1, 1⟩, ⟨3, 1⟩] 1 _ Ha.out (by decide) (by decide) (by decide)).mono ?_
  rintro e w2 ⟨A2, c2, rfl, hin, hb2⟩
  replace Ha := Lib.hid (Ha.out.later hb2)
  replace HW := Lib.hid (HW.out.trans (hb2.mono HW.out.size))
  clear hb2
  have Hb := Lib.hid hin
  clear hin
  simp only [List.length_cons, List.length_nil, Nat.zero_add, Nat.reduceAdd]
  go_wp2_with fail
  refine (Up_at A1 c1 [⟨3, 1⟩] [⟨3, 2⟩] 3 _ Ha.out (by decide) (by decide) (by decide)).mono ?_
  rintro e w3 ⟨A3, c3, rfl, hin, hb3⟩
  replace Ha := Lib.hid (Ha.out.later hb3)
  replace Hb := Lib.hid (Hb.out.later hb3)
  replace HW := Lib.hid (HW.out.trans (hb3.mono HW.out.size))
  clear hb3
  have Hc := Lib.hid hin
  clear hin
  simp only [List.length_cons, List.length_nil, Nat.zero_add]
  go_wp2_with fail
  refine (Join_at A2 A3 c2 c3 [⟨1, 1⟩, ⟨3, 1⟩] [⟨3, 2⟩] [⟨1, 1⟩, ⟨3, 2⟩] _ Hb.out Hc.out (by decide) (by decide) merge_known).mono ?_
  rintro e w4 ⟨A4, c4, rfl, hin, hb4⟩
  replace Ha := Lib.hid (Ha.out.later hb4)
  replace Hb := Lib.hid (Hb.out.later hb4)
  replace Hc := Lib.hid (Hc.out.later hb4)
  replace HW := Lib.hid (HW.out.trans (hb4.mono HW.out.size))
  clear hb4
  have Hj := Lib.hid hin
  clear hin
  simp only [List.length_cons, List.length_nil, Nat.zero_add, Nat.reduceAdd]
  go_wp2_with fail
  refine (Is_at A2 c2 [⟨1, 1⟩, ⟨3, 1⟩] true _ Hb.out (by decide)).mono ?_
  rintro e w5 ⟨rfl, hb5⟩
  replace Ha := Lib.hid (Ha.out.later hb5)
  replace Hb := Lib.hid (Hb.out.later hb5)
  replace Hc := Lib.hid (Hc.out.later hb5)
  replace Hj := Lib.hid (Hj.out.later hb5)
  replace HW := Lib.hid (HW.out.trans (hb5.mono HW.out.size))
  clear hb5
  go_wp2_with fail
  refine (Of_at A3 c3 [⟨3, 2⟩] 3 2 _ Hc.out (by decide) (by decide) (by decide)).mono ?_
  rintro e w6 ⟨rfl, hb6⟩
  replace Ha := Lib.hid (Ha.out.later hb6)
  replace Hb := Lib.hid (Hb.out.later hb6)
  replace Hc := Lib.hid (Hc.out.later hb6)
  replace Hj := Lib.hid (Hj.out.later hb6)
  replace HW := Lib.hid (HW.out.trans (hb6.mono HW.out.size))
  clear hb6
  go_wp2_with fail
  refine (Cmp_at A1 A2 c1 c2 [⟨3, 1⟩] [⟨1, 1⟩, ⟨3, 1⟩] (-1) _ Ha.out Hb.out (by decide) (by decide) (by decide) (by decide) (by decide)).mono ?_
  rintro e w7 ⟨rfl, hb7⟩
  replace Ha := Lib.hid (Ha.out.later hb7)
  replace Hb := Lib.hid (Hb.out.later hb7)
  replace Hc := Lib.hid (Hc.out.later hb7)
  replace Hj := Lib.hid (Hj.out.later hb7)
  replace HW := Lib.hid (HW.out.trans (hb7.mono HW.out.size))
  clear hb7
  go_wp2_with fail
  refine (Cmp_at A2 A1 c2 c1 [⟨1, 1⟩, ⟨3, 1⟩] [⟨3, 1⟩] 1 _ Hb.out Ha.out (by decide) (by decide) (by decide) (by decide) (by decide)).mono ?_
  rintro e w8 ⟨rfl, hb8⟩
  replace Ha := Lib.hid (Ha.out.later hb8)
  replace Hb := Lib.hid (Hb.out.later hb8)
  replace Hc := Lib.hid (Hc.out.later hb8)
  replace Hj := Lib.hid (Hj.out.later hb8)
  replace HW := Lib.hid (HW.out.trans (hb8.mono HW.out.size))
  clear hb8
  go_wp2_with fail
  refine (Cmp_at A2 A3 c2 c3 [⟨1, 1⟩, ⟨3, 1⟩] [⟨3, 2⟩] 2 _ Hb.out Hc.out (by decide) (by decide) (by decide) (by decide) (by decide)).mono ?_
  rintro e w9 ⟨rfl, hb9⟩
  replace Ha := Lib.hid (Ha.out.later hb9)
  replace Hb := Lib.hid (Hb.out.later hb9)
  replace Hc := Lib.hid (Hc.out.later hb9)
  replace Hj := Lib.hid (Hj.out.later hb9)
  replace HW := Lib.hid (HW.out.trans (hb9.mono HW.out.size))
  clear hb9
  go_wp2_with fail
  refine (Cmp_at A1 A1 c1 c1 [⟨3, 1⟩] [⟨3, 1⟩] 0 _ Ha.out Ha.out (by decide) (by decide) (by decide) (by decide) (by decide)).mono ?_
  rintro e w10 ⟨rfl, hb10⟩
  replace Ha := Lib.hid (Ha.out.later hb10)
  replace Hb := Lib.hid (Hb.out.later hb10)
  replace Hc := Lib.hid (Hc.out.later hb10)
  replace Hj := Lib.hid (Hj.out.later hb10)
  replace HW := Lib.hid (HW.out.trans (hb10.mono HW.out.size))
  clear hb10
  go_wp2_with fail
  refine (Of_at A4 c4 [⟨1, 1⟩, ⟨3, 2⟩] 3 2 _ Hj.out (by decide) (by decide) (by decide)).mono ?_
  rintro e w11 ⟨rfl, hb11⟩
  replace Ha := Lib.hid (Ha.out.later hb11)
  replace Hb := Lib.hid (Hb.out.later hb11)
  replace Hc := Lib.hid (Hc.out.later hb11)
  replace Hj := Lib.hid (Hj.out.later hb11)
  replace HW := Lib.hid (HW.out.trans (hb11.mono HW.out.size))
  clear hb11
  go_wp2_with fail
  refine (Of_at A4 c4 [⟨1, 1⟩, ⟨3, 2⟩] 1 1 _ Hj.out (by decide) (by decide) (by decide)).mono ?_
  rintro e w12 ⟨rfl, hb12⟩
  replace Ha := Lib.hid (Ha.out.later hb12)
  replace Hb := Lib.hid (Hb.out.later hb12)
  replace Hc := Lib.hid (Hc.out.later hb12)
  replace Hj := Lib.hid (Hj.out.later hb12)
  replace HW := Lib.hid (HW.out.trans (hb12.mono HW.out.size))
  clear hb12
  go_wp2_with fail
  refine (Same_at A4 A4 c4 c4 [⟨1, 1⟩, ⟨3, 2⟩] [⟨1, 1⟩, ⟨3, 2⟩] true _ Hj.out Hj.out (by decide)).mono ?_
  rintro e w13 ⟨rfl, hb13⟩
  replace Ha := Lib.hid (Ha.out.later hb13)
  replace Hb := Lib.hid (Hb.out.later hb13)
  replace Hc := Lib.hid (Hc.out.later hb13)
  replace Hj := Lib.hid (Hj.out.later hb13)
  replace HW := Lib.hid (HW.out.trans (hb13.mono HW.out.size))
  clear hb13
  go_wp2_with fail
  refine (Is_at (some ⟨w13.heap.size, 0, none⟩) 1 [⟨1, 0⟩] false _ ⟨LiesB.one (by simp) (by simp) (by simp), by simp, (by unfold maxLen; omega), fun x hx => by rw [List.mem_singleton.1 hx]; exact ⟨by decide, by decide⟩⟩ (by decide)).mono ?_
  rintro e w14 ⟨rfl, hb14⟩
  go_wp2_with fail
  go_ret
  exact ⟨rfl, (belAl HW.out).trans (hb14.mono (belAl HW.out).size)⟩
end Go.Proofs.Ytahjlckdjlafpaa
