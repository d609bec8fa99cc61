/- What the reference's SameSchema does. No condition but that the schemas lie in memory. -/
import Derived.Test.YtohmgidmfabimaaRefSc
import Derived.StillTailTactics
namespace Go.Proofs.Ytohmgidmfabimaa
open Go.RowKit

theorem er_ne_k {k k' : Int} {A A' : Option Addr} {c c' : Nat} {l l' : List Sc} (h : k ≠ k') : decide ((Sc.mk k A c l).er = (Sc.mk k' A' c' l').er) = false := by
  rw [er_mk, er_mk]; simp [h]
theorem er_ne_len {k k' : Int} {A A' : Option Addr} {c c' : Nat} {l l' : List Sc} (h : l.length ≠ l'.length) : decide ((Sc.mk k A c l).er = (Sc.mk k' A' c' l').er) = false := by
  rw [er_mk, er_mk]
  refine decide_eq_false fun e => h ?_
  have := congrArg List.length (Tr.mk.inj e).2
  simpa using this
theorem er_ne_at {k k' : Int} {A A' : Option Addr} {c c' : Nat} {l l' : List Sc} {i : Nat} {x x' : Sc} (hx : l[i]? = some x) (hx' : l'[i]? = some x') (h : decide (x.er = x'.er) = false) : decide ((Sc.mk k A c l).er = (Sc.mk k' A' c' l').er) = false := by
  rw [er_mk, er_mk]
  refine decide_eq_false fun e => of_decide_eq_false h ?_
  have := congrArg (fun z => z[i]?) (Tr.mk.inj e).2
  simpa [hx, hx'] using this
theorem take_er_succ {l l' : List Sc} {i : Nat} {x x' : Sc} (h0 : (l.take i).map Sc.er = (l'.take i).map Sc.er) (hx : l[i]? = some x) (hx' : l'[i]? = some x') (h : decide (x.er = x'.er) = true) :
    (l.take (i + 1)).map Sc.er = (l'.take (i + 1)).map Sc.er := by
  obtain ⟨hk, he⟩ := List.getElem?_eq_some_iff.1 hx
  obtain ⟨hk', he'⟩ := List.getElem?_eq_some_iff.1 hx'
  rw [List.take_succ_eq_append_getElem hk, List.take_succ_eq_append_getElem hk', he, he', List.map_append, List.map_append, h0]
  simp [of_decide_eq_true h]
theorem er_eq_all {k : Int} {A A' : Option Addr} {c c' : Nat} {l l' : List Sc} {i : Nat} (h0 : (l.take i).map Sc.er = (l'.take i).map Sc.er) (hi : l.length ≤ i) (hi' : l'.length ≤ i) : decide ((Sc.mk k A c l).er = (Sc.mk k A' c' l').er) = true := by
  rw [List.take_of_length_le hi, List.take_of_length_le hi'] at h0
  rw [er_mk, er_mk, h0]
  exact decide_eq_true rfl

set_option maxHeartbeats 400000 in
theorem refsame_any : ∀ (s t : Sc) (w : World), s.In w.heap.size w → t.In w.heap.size w →
    Calls Try.prog 11 #[s.val, t.val] w (RetV w (.bool (decide (s.er = t.er)))) := by
  intro s
  induction s using Sc.ind with
  | h k0 A c l ih =>
    rintro ⟨k1, A', c', l'⟩ w hin hin'
    obtain ⟨hl, hlc, hc32, hall⟩ := hin.out
    obtain ⟨hl', hlc', hc32', hall'⟩ := hin'.out
    clear hin hin'
    have IH := Lib.hid ih
    have HALL := Lib.hid hall
    have HALL' := Lib.hid hall'
    clear ih hall hall'
    simp only [val_mk]
    by_cases hk01 : k0 = k1
    · subst hk01
      by_cases hlen : l.length = l'.length
      · have HLEN := Lib.hid hlen
        have hle : l'.length = l.length := hlen.symm
        clear hlen
        rw [hle]
        clear hle
        go_enter Try.func11, Try.ntmps11
        go_wp2_with fail
        have hbw0 : Below w.heap.size w ((w.alloc (.cells #[.int .i64 k0, .slice A l.length c] 24)).alloc (.cells #[.int .i64 k0, .slice A' l.length c'] 24)) := (allocB _ _).trans ((allocB _ _).mono (by simp))
        go_loopw [5] (fun iv wr => ∃ (k : Nat), k ≤ l.length ∧ iv = .int .i64 k ∧ Hid ((l.take k).map Sc.er = (l'.take k).map Sc.er) ∧ Below w.heap.size w wr ∧ wr.cell? ⟨w.heap.size, 1, none⟩ = some (.slice A l.length c) ∧ wr.cell? ⟨w.heap.size + 1, 1, none⟩ = some (.slice A' l.length c') ∧ w.heap.size + 1 < wr.heap.size) (fun iv _ => l.length - (intOf iv).toNat)
        case atStart => exact ⟨0, Nat.zero_le _, rfl, by simp [Hid], hbw0, by simp, by simp, by simp⟩
        case round =>
          obtain ⟨k, hk, rfl, h0, hbw, hbox, hbox', hsz⟩ := hrel
          clear hbw0
          by_cases hlt : k < l.length
          · have hlt' : k < l'.length := by have := HLEN.out; omega
            obtain ⟨b, off, rfl, hb, hc⟩ := (hl.below hbw).get hlt
            obtain ⟨x, hx⟩ : ∃ x, l[k]? = some x := ⟨_, List.getElem?_eq_getElem hlt⟩
            obtain ⟨hc0, hc1⟩ := hc k x hx
            have hxin : x.In wr.heap.size wr := ((HALL.out x (List.mem_of_getElem? hx)).later hbw)
            have HX := Lib.hid hx
            obtain ⟨b', off', rfl, hb', hc'⟩ := (hl'.below hbw).get hlt'
            obtain ⟨y, hy⟩ : ∃ y, l'[k]? = some y := ⟨_, List.getElem?_eq_getElem hlt'⟩
            obtain ⟨hd0, hd1⟩ := hc' k y hy
            have hyin : y.In wr.heap.size wr := ((HALL'.out y (List.mem_of_getElem? hy)).later hbw)
            have HY := Lib.hid hy
            clear hx hc hl hy hc' hl'
            have HM := Lib.hid (List.mem_of_getElem? HX.out)
            obtain ⟨xk, xA, xc, xl⟩ := x
            obtain ⟨yk, yA, yc, yl⟩ := y
            simp only [Sc.v1, Sc.k] at hc0 hc1 hd0 hd1
            obtain ⟨q, hq⟩ : ∃ q, decide ((Sc.mk xk xA xc xl).er = (Sc.mk yk yA yc yl).er) = q := ⟨_, rfl⟩
            have HQ := Lib.hid hq
            clear hq
            have hlti : (k : Int) < (l.length : Int) := by omega
            go_wp2_with fail
            go_still_tail 10, (by kernel_rfl)
            change wpList _ _ _ _ _ wr.drew
            have hbd : Below wr.heap.size wr wr.drew := (Below.refl _ _).drew
            replace hxin := hxin.later hbd
            replace hyin := hyin.later hbd
            replace hbw := hbw.trans (hbd.mono hbw.size)
            replace hbox : wr.drew.cell? _ = _ := hbox
            replace hbox' : wr.drew.cell? _ = _ := hbox'
            replace hsz : _ < wr.drew.heap.size := hsz
            clear hbd hc0 hc1 hd0 hd1
            generalize wr.drew = w2 at *
            go_wp2_with fail
            refine (IH.out _ HM.out (.mk yk yA yc yl) w2 hxin hyin).mono ?_
            rintro e w' ⟨rfl, hb2⟩
            have hbox2 := (hb2.cell (p := ⟨w.heap.size, 1, none⟩) (by show w.heap.size < _; omega)).trans hbox
            have hbox3 := (hb2.cell (p := ⟨w.heap.size + 1, 1, none⟩) hsz).trans hbox'
            rw [HQ.out]
            cases q with
            | false =>
              go_wp2_with fail
              go_ret
              exact ⟨ret_bool (er_ne_at HX.out HY.out HQ.out).symm, hbw.trans (hb2.mono hbw.size)⟩
            | true =>
              go_wp2_with fail
              go_roundw
              case rel => exact ⟨k + 1, by omega, by go_num, take_er_succ h0.out HX.out HY.out HQ.out, hbw.trans (hb2.mono hbw.size), hbox2, hbox3, Nat.lt_of_lt_of_le hsz hb2.size⟩
              case measure => simp [intOf]; omega
          · go_wp2_with fail
            go_ret
            exact ⟨ret_bool (er_eq_all h0.out (by omega) (by have := HLEN.out; omega)).symm, hbw⟩
      · rw [er_ne_len hlen]
        have hne : ¬ ((l.length : Int) = l'.length) := by omega
        clear hlen
        go_enter Try.func11, Try.ntmps11
        go_wp2_with fail
        go_ret
        exact ⟨rfl, (allocB _ _).trans ((allocB _ _).mono (by simp))⟩
    · rw [er_ne_k hk01]
      go_enter Try.func11, Try.ntmps11
      go_wp2_with fail
      go_ret
      exact ⟨rfl, (allocB _ _).trans ((allocB _ _).mono (by simp))⟩
end Go.Proofs.Ytohmgidmfabimaa
