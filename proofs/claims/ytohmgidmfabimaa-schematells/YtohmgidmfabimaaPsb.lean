/- What schema.Same does. No condition but that the schemas lie in memory. -/
import Derived.Test.YtohmgidmfabimaaPsa
namespace Go.Proofs.Ytohmgidmfabimaa
open Go.RowKit

theorem erL_eq_all {l l' : List Sc} {i : Nat} (h0 : (l.take i).map Sc.er = (l'.take i).map Sc.er) (hi : l.length ≤ i) (hi' : l'.length ≤ i) : decide (l.map Sc.er = l'.map Sc.er) = true := by
  rw [List.take_of_length_le hi, List.take_of_length_le hi'] at h0
  exact decide_eq_true h0
theorem erL_ne_at {l l' : List Sc} {i : Nat} {x x' : Sc} (hx : l[i]? = some x) (hx' : l'[i]? = some x') (h : decide (x.er = x'.er) = false) : decide (l.map Sc.er = l'.map Sc.er) = false := by
  refine decide_eq_false fun e => of_decide_eq_false h ?_
  have := congrArg (fun z => z[i]?) e
  simpa [hx, hx'] using this
theorem erL_ne_len {l l' : List Sc} (h : l.length ≠ l'.length) : decide (l.map Sc.er = l'.map Sc.er) = false := by
  refine decide_eq_false fun e => h ?_
  have := congrArg List.length e
  simpa using this

set_option maxRecDepth 100000 in
set_option maxHeartbeats 400000 in
theorem equalFunc_any (A A' : Option Addr) (c c' : Nat) (l l' : List Sc) (w : World) (hl : LiesS w.heap.size w A l) (hl' : LiesS w.heap.size w A' l') (hc32 : l.length * 32 ≤ 140737488351232) (hall : ∀ x ∈ l, x.In w.heap.size w) (hall' : ∀ x ∈ l', x.In w.heap.size w)
    (ih : ∀ x ∈ l, ∀ (t : Sc) (w : World), x.In w.heap.size w → t.In w.heap.size w → Calls Try.prog 10 #[x.val, t.val] w (RetV w (.bool (decide (x.er = t.er))))) :
    Calls Try.prog 21 #[.slice A l.length c, .slice A' l'.length c', .func (.func 10) #[] #[]] w (RetV w (.bool (decide (l.map Sc.er = l'.map Sc.er)))) := by
  have IH := Lib.hid ih
  have HALL := Lib.hid hall
  have HALL' := Lib.hid hall'
  clear ih hall hall'
  by_cases hlen : l.length = l'.length
  · have HLEN := Lib.hid hlen
    have hle : l'.length = l.length := hlen.symm
    clear hlen
    rw [hle]
    clear hle
    go_enter Try.func21, Try.ntmps21
    go_wp2_with fail
    go_loopw [17] (fun iv wr => ∃ (k : Nat), k ≤ l.length ∧ iv = .int .i64 k ∧ Hid ((l.take k).map Sc.er = (l'.take k).map Sc.er) ∧ Below w.heap.size w wr) (fun iv _ => l.length - (intOf iv).toNat)
    case atStart => exact ⟨0, Nat.zero_le _, rfl, by simp [Hid], Below.refl _ _⟩
    case round =>
      obtain ⟨k, hk, rfl, h0, hbw⟩ := hrel
      by_cases hlt : k < l.length
      · have hlt' : k < l'.length := by have := HLEN.out; omega
        obtain ⟨b, off, rfl, hb, hc⟩ := (hl.below hbw).get hlt
        obtain ⟨x, hx⟩ : ∃ x, l[k]? = some x := ⟨_, List.getElem?_eq_getElem hlt⟩
        obtain ⟨hc0, hc1⟩ := hc k x hx
        have hxin : x.In wr.heap.size wr := ((HALL.out x (List.mem_of_getElem? hx)).later hbw)
        have HX := Lib.hid hx
        obtain ⟨b', off', rfl, hb', hc'⟩ := (hl'.below hbw).get hlt'
        obtain ⟨y, hy⟩ : ∃ y, l'[k]? = some y := ⟨_, List.getElem?_eq_getElem hlt'⟩
        obtain ⟨hd0, hd1⟩ := hc' k y hy
        have hyin : y.In wr.heap.size wr := ((HALL'.out y (List.mem_of_getElem? hy)).later hbw)
        have HY := Lib.hid hy
        clear hx hc hl hy hc' hl'
        have HM := Lib.hid (List.mem_of_getElem? HX.out)
        have hbb : b < wr.heap.size := Nat.lt_of_lt_of_le hb hbw.size
        have hbb' : b' < wr.heap.size := Nat.lt_of_lt_of_le hb' hbw.size
        obtain ⟨xk, xA, xc, xl⟩ := x
        obtain ⟨yk, yA, yc, yl⟩ := y
        simp only [Sc.v1, Sc.k] at hc0 hc1 hd0 hd1
        obtain ⟨q, hq⟩ : ∃ q, decide ((Sc.mk xk xA xc xl).er = (Sc.mk yk yA yc yl).er) = q := ⟨_, rfl⟩
        have HQ := Lib.hid hq
        clear hq
        go_wp2_with fail
        have hbw2 : Below w.heap.size w ((wr.alloc (.cells #[.int .i64 xk, .slice xA xl.length xc] 24)).alloc (.cells #[.int .i64 yk, .slice yA yl.length yc] 24)) := belAl (belAl hbw)
        have hbr : Below wr.heap.size wr ((wr.alloc (.cells #[.int .i64 xk, .slice xA xl.length xc] 24)).alloc (.cells #[.int .i64 yk, .slice yA yl.length yc] 24)) := belAl (belAl (Below.refl _ _))
        refine (IH.out _ HM.out (.mk yk yA yc yl) _ (hxin.later hbr) (hyin.later hbr)).mono ?_
        rintro e w' ⟨rfl, hb2⟩
        have hb3 : Below w.heap.size w w' := hbw2.trans (hb2.mono hbw2.size)
        clear hb2 hbw2 hbr
        rw [HQ.out]
        cases q with
        | false =>
          go_wp2_with fail
          go_ret
          exact ⟨ret_bool (erL_ne_at HX.out HY.out HQ.out).symm, hb3⟩
        | true =>
          go_wp2_with fail
          go_roundw
          case rel => exact ⟨k + 1, by omega, by go_num, take_er_succ h0.out HX.out HY.out HQ.out, hb3⟩
          case measure => simp [intOf]; omega
      · go_wp2_with fail
        go_ret
        exact ⟨ret_bool (erL_eq_all h0.out (by omega) (by have := HLEN.out; omega)).symm, hbw⟩
  · rw [erL_ne_len hlen]
    have hne : ¬ ((l.length : Int) = l'.length) := by omega
    clear hlen
    go_enter Try.func21, Try.ntmps21
    go_wp2_with fail
    go_ret
    exact ⟨rfl, Below.refl _ _⟩

set_option maxHeartbeats 400000 in
theorem same_any : ∀ (s t : Sc) (w : World), s.In w.heap.size w → t.In w.heap.size w →
    Calls Try.prog 10 #[s.val, t.val] w (RetV w (.bool (decide (s.er = t.er)))) := by
  intro s
  induction s using Sc.ind with
  | h k0 A c l ih =>
    rintro ⟨k1, A', c', l'⟩ w hin hin'
    have hbw : Below w.heap.size w ((w.alloc (.cells #[.int .i64 k0, .slice A l.length c] 24)).alloc (.cells #[.int .i64 k1, .slice A' l'.length c'] 24)) := belAl (belAl (Below.refl _ _))
    obtain ⟨hl, hlc, hc32, hall⟩ := (hin.later hbw).out
    obtain ⟨hl', hlc', hc32', hall'⟩ := (hin'.later hbw).out
    have HE := Lib.hid (equalFunc_any A A' c c' l l' _ hl hl' hc32 hall hall' ih)
    have HB := Lib.hid hbw
    clear hin hin' ih hall hall' hl hl' hlc hlc' hc32 hc32' hbw
    simp only [val_mk]
    by_cases hk01 : k0 = k1
    · subst hk01
      have HD : Hid (decide (l.map Sc.er = l'.map Sc.er) = decide ((Sc.mk k0 A c l).er = (Sc.mk k0 A' c' l').er)) := by
        show decide _ = decide _
        rw [er_mk, er_mk]; simp
      go_enter Try.func10, Try.ntmps10
      go_wp2_with fail
      refine HE.out.mono ?_
      rintro e w' ⟨rfl, hb2⟩
      rw [HD.out]
      go_wp2_with fail
      go_ret
      exact ⟨rfl, HB.out.trans (hb2.mono HB.out.size)⟩
    · rw [er_ne_k hk01]
      go_enter Try.func10, Try.ntmps10
      go_wp2_with fail
      go_ret
      exact ⟨rfl, HB.out⟩
end Go.Proofs.Ytohmgidmfabimaa
