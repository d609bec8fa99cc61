/- What slices.IndexFunc and slices.ContainsFunc do with clock.wrong; clock.Is, slices.Equal, clock.Same. No condition but that the ticks lie in memory. -/
import Derived.Test.YtahjlckdjlafpaaPca
namespace Go.Proofs.Ytahjlckdjlafpaa
open Go.RowKit

/-- A call that answers a place, not below 0 just if b. -/
def RetIx (w : World) (b : Bool) (e : Ending) (w' : World) : Prop := ∃ i : Int, e = .returned (.int .i64 i) ∧ decide (0 ≤ i) = b ∧ Below w.heap.size w w'

theorem any_succ {p : Tk → Bool} {l : List Tk} {k : Nat} {x : Tk} (h0 : (l.take k).any p = false) (hx : l[k]? = some x) (h : p x = false) : (l.take (k + 1)).any p = false := by
  obtain ⟨hi, he⟩ := List.getElem?_eq_some_iff.1 hx
  rw [List.take_succ_eq_append_getElem hi, List.any_append, h0, he]
  simp [h]
theorem any_end {p : Tk → Bool} {l : List Tk} {k : Nat} (h0 : (l.take k).any p = false) (h : l.length ≤ k) : l.any p = false := by rwa [List.take_of_length_le h] at h0
theorem any_yes {p : Tk → Bool} {l : List Tk} {k : Nat} {x : Tk} (hx : l[k]? = some x) (h : p x = true) : l.any p = true := List.any_eq_true.2 ⟨x, List.mem_of_getElem? hx, h⟩

set_option maxHeartbeats 400000 in
theorem indexWrong_any (A : Option Addr) (c : Nat) (l : List Tk) (w : World) (h : In w A c l) :
    Calls Try.prog 30 #[.slice A l.length c, .func (.func 21) #[] #[]] w (RetIx w (l.any bad)) := by
  obtain ⟨hl, hcap, htop, -⟩ := h
  have hlm : l.length ≤ 9223372036854775807 := by unfold maxLen at htop; omega
  clear hcap htop
  go_enter Try.func30, Try.ntmps30
  go_wp2_with fail
  go_loopw [8] (fun iv wr => ∃ k : Nat, k ≤ l.length ∧ iv = .int .i64 k ∧ Hid ((l.take k).any bad = false) ∧ Below w.heap.size w wr) (fun iv _ => l.length - (intOf iv).toNat)
  case atStart => exact ⟨0, Nat.zero_le _, rfl, by simp [Hid], Below.refl _ _⟩
  case round =>
    obtain ⟨k, hk, rfl, h0, hbw⟩ := hrel
    by_cases hlt : k < l.length
    · obtain ⟨b, off, rfl, hb, hc⟩ := (hl.below hbw).get hlt
      obtain ⟨x, hx⟩ : ∃ x, l[k]? = some x := ⟨_, List.getElem?_eq_getElem hlt⟩
      obtain ⟨hc0, hc1⟩ := hc k x hx
      have HX := Lib.hid hx
      clear hx hc hl
      obtain ⟨xk, xn⟩ := x
      dsimp only at hc0 hc1
      obtain ⟨q, hq⟩ : ∃ q, bad ⟨xk, xn⟩ = q := ⟨_, rfl⟩
      have HQ := Lib.hid hq
      clear hq
      go_wp2_with fail
      refine (wrong_any xk xn wr).mono ?_
      rintro e w' ⟨rfl, hb2⟩
      have hb3 : Below w.heap.size w w' := hbw.trans (hb2.mono hbw.size)
      rw [HQ.out]
      cases q with
      | true =>
        go_wp2_with fail
        go_ret
        exact ⟨_, rfl, (by rw [any_yes HX.out HQ.out]; exact decide_eq_true (by omega)), hb3⟩
      | false =>
        go_wp2_with fail
        go_roundw
        case rel => exact ⟨k + 1, by omega, by go_num, any_succ h0.out HX.out HQ.out, hb3⟩
        case measure => simp [intOf]; omega
    · go_wp2_with fail
      go_ret
      exact ⟨_, rfl, (by rw [any_end h0.out (by omega)]; rfl), hbw⟩

set_option maxHeartbeats 400000 in
theorem containsWrong_any (A : Option Addr) (c : Nat) (l : List Tk) (w : World) (h : In w A c l) :
    Calls Try.prog 20 #[.slice A l.length c, .func (.func 21) #[] #[]] w (RetV w (.bool (l.any bad))) := by
  have HA := Lib.hid h
  clear h
  go_enter Try.func20, Try.ntmps20
  go_wp2_with fail
  refine (indexWrong_any A c l w HA.out).mono ?_
  rintro e w' ⟨i, rfl, hi, hb⟩
  have HI := Lib.hid hi
  clear hi
  go_wp2_with fail
  go_ret
  exact ⟨ret_bool HI.out, hb⟩

set_option maxHeartbeats 400000 in
theorem Is_any (A : Option Addr) (c : Nat) (l : List Tk) (w : World) (h : In w A c l) :
    Calls Try.prog 6 #[.slice A l.length c] w (RetV w (.bool (isC l))) := by
  have HA := Lib.hid h
  have hlm : l.length ≤ 9223372036854775807 := by have := h.cap; have := h.top; unfold maxLen at this; omega
  clear h
  by_cases c1 : l.length ≤ 40
  · obtain ⟨p, hp⟩ : ∃ p, decide (Asc l) = p := ⟨_, rfl⟩
    obtain ⟨q, hq⟩ : ∃ q, l.any bad = q := ⟨_, rfl⟩
    have HR : Hid (isC l = (p && !q)) := by show isC l = _; unfold isC; rw [decide_eq_true c1, hp, hq]; rfl
    rw [HR.out]
    have HP := Lib.hid hp
    have HQ := Lib.hid hq
    clear hp hq
    go_enter Try.func6, Try.ntmps6
    go_wp2_with fail
    refine (rises_any A c l w HA.out).mono ?_
    rintro e w1 ⟨rfl, hb1⟩
    rw [HP.out]
    cases p with
    | false =>
      go_wp2_with fail
      go_ret
      exact ⟨rfl, hb1⟩
    | true =>
      go_wp2_with fail
      refine (containsWrong_any A c l w1 (HA.out.later hb1)).mono ?_
      rintro e w2 ⟨rfl, hb2⟩
      rw [HQ.out]
      go_wp2_with fail
      go_ret
      exact ⟨by simp, hb1.trans (hb2.mono hb1.size)⟩
  · have HR : Hid (isC l = false) := by show isC l = _; unfold isC; rw [decide_eq_false c1]; rfl
    rw [HR.out]
    have d1 : decide ((l.length : Int) ≤ 40) = false := decide_eq_false (by omega)
    go_enter Try.func6, Try.ntmps6
    go_wp2_with fail
    go_ret
    exact ⟨rfl, Below.refl _ _⟩

set_option maxHeartbeats 400000 in
theorem equal_any (A A' : Option Addr) (c c' : Nat) (l l' : List Tk) (w : World) (h : In w A c l) (h' : In w A' c' l') :
    Calls Try.prog 22 #[.slice A l.length c, .slice A' l'.length c'] w (RetV w (.bool (decide (l = l')))) := by
  obtain ⟨hl, hcap, htop, -⟩ := h
  obtain ⟨hl', -, -, -⟩ := h'
  have hlm : l.length ≤ 9223372036854775807 := by unfold maxLen at htop; omega
  clear hcap htop
  by_cases hlen : l.length = l'.length
  · have HLEN := Lib.hid hlen
    have hle : l'.length = l.length := hlen.symm
    clear hlen
    rw [hle]
    clear hle
    go_enter Try.func22, Try.ntmps22
    go_wp2_with fail
    go_loopw [13] (fun iv wr => ∃ k : Nat, k ≤ l.length ∧ iv = .int .i64 k ∧ Hid (l.take k = l'.take k) ∧ Below w.heap.size w wr) (fun iv _ => l.length - (intOf iv).toNat)
    case atStart => exact ⟨0, Nat.zero_le _, rfl, by simp [Hid], Below.refl _ _⟩
    case round =>
      obtain ⟨k, hk, rfl, h0, hbw⟩ := hrel
      by_cases hlt : k < l.length
      · have hlt' : k < l'.length := by have := HLEN.out; omega
        obtain ⟨b, off, rfl, hb, hc⟩ := (hl.below hbw).get hlt
        obtain ⟨x, hx⟩ : ∃ x, l[k]? = some x := ⟨_, List.getElem?_eq_getElem hlt⟩
        obtain ⟨hc0, hc1⟩ := hc k x hx
        have HX := Lib.hid hx
        obtain ⟨b', off', rfl, hb', hc'⟩ := (hl'.below hbw).get hlt'
        obtain ⟨y, hy⟩ : ∃ y, l'[k]? = some y := ⟨_, List.getElem?_eq_getElem hlt'⟩
        obtain ⟨hd0, hd1⟩ := hc' k y hy
        have HY := Lib.hid hy
        clear hx hc hl hy hc' hl'
        obtain ⟨xk, xn⟩ := x
        obtain ⟨yk, yn⟩ := y
        dsimp only at hc0 hc1 hd0 hd1
        have hki : (k : Int) < (l.length : Int) := by omega
        by_cases he : xk = yk ∧ xn = yn
        · obtain ⟨rfl, rfl⟩ := he
          go_wp2_with fail
          go_quiet (fail)
          go_wp2_with fail
          go_roundw
          case rel => exact ⟨k + 1, by omega, by go_num, take_eq_succ h0.out HX.out HY.out, below_drewN hbw _⟩
          case measure => simp [intOf]; omega
        · have HE := Lib.hid he
          have HNE : Hid (Tk.mk xk xn ≠ Tk.mk yk yn) := by intro e; cases e; exact HE.out ⟨rfl, rfl⟩
          by_cases hk1 : xk = yk
          · have hn1 : ¬ xn = yn := fun e => he ⟨hk1, e⟩
            have hk2 : (xk == yk) = true := by simp [hk1]
            have hn2 : (xn == yn) = false := by simp [hn1]
            clear he hk1 hn1
            go_wp2_with fail
            go_quiet (fail)
            go_wp2_with fail
            go_ret
            exact ⟨ret_bool (ne_at HX.out HY.out HNE.out).symm, below_drewN hbw _⟩
          · have hk2 : (xk == yk) = false := by simp [hk1]
            clear he hk1
            go_wp2_with fail
            go_quiet (fail)
            go_wp2_with fail
            go_ret
            exact ⟨ret_bool (ne_at HX.out HY.out HNE.out).symm, below_drewN hbw _⟩
      · go_wp2_with fail
        go_ret
        exact ⟨ret_bool (eq_all h0.out (by omega) (by have := HLEN.out; omega)).symm, hbw⟩
  · rw [ne_len hlen]
    have hne : ¬ ((l.length : Int) = l'.length) := by omega
    clear hlen
    go_enter Try.func22, Try.ntmps22
    go_wp2_with fail
    go_ret
    exact ⟨rfl, Below.refl _ _⟩

set_option maxHeartbeats 400000 in
theorem Same_any (A A' : Option Addr) (c c' : Nat) (l l' : List Tk) (w : World) (h : In w A c l) (h' : In w A' c' l') :
    Calls Try.prog 8 #[.slice A l.length c, .slice A' l'.length c'] w (RetV w (.bool (decide (l = l')))) := by
  have HE := Lib.hid (equal_any A A' c c' l l' w h h')
  clear h h'
  go_enter Try.func8, Try.ntmps8
  go_wp2_with fail
  refine HE.out.mono ?_
  rintro e w' ⟨rfl, hb⟩
  go_wp2_with fail
  go_ret
  exact ⟨rfl, hb⟩
end Go.Proofs.Ytahjlckdjlafpaa
