/- What the reference's Of, SameClocks, IsClock do. No condition but that the ticks lie in memory. -/
import Derived.Test.YtahjlckdjlafpaaTck
namespace Go.Proofs.Ytahjlckdjlafpaa
open Go.RowKit

theorem ofC_drop {l : List Tk} {i : Nat} {x : Tk} {q : Int} (hx : l[i]? = some x) : ofC (l.drop i) q = if x.k = q then x.n else ofC (l.drop (i + 1)) q := by
  obtain ⟨hi, he⟩ := List.getElem?_eq_some_iff.1 hx
  rw [List.drop_eq_getElem_cons hi, he, ofC]

set_option maxHeartbeats 400000 in
theorem refOf_any (A : Option Addr) (c : Nat) (l : List Tk) (q : Int) (w : World) (h : In w A c l) :
    Calls Try.prog 11 #[.slice A l.length c, .int .i64 q] w fun e w' => e = .returned (.int .u64 (ofC l q)) ∧ w = w' := by
  obtain ⟨hl, hcap, htop, -⟩ := h
  have hlm : l.length ≤ 9223372036854775807 := by unfold maxLen at htop; omega
  clear hcap htop
  go_enter Try.func11, Try.ntmps11
  go_wp2_with fail
  go_loop [5] (fun iv => ∃ k : Nat, k ≤ l.length ∧ iv = .int .i64 k ∧ Hid (ofC l q = ofC (l.drop k) q)) (fun iv => l.length - (intOf iv).toNat)
  case atStart => exact ⟨0, Nat.zero_le _, rfl, by simp [Hid]⟩
  case round =>
    obtain ⟨k, hk, rfl, h0⟩ := hrel
    by_cases hlt : k < l.length
    · obtain ⟨b, off, rfl, hb, hc⟩ := hl.get hlt
      obtain ⟨x, hx⟩ : ∃ x, l[k]? = some x := ⟨_, List.getElem?_eq_getElem hlt⟩
      obtain ⟨hc0, hc1⟩ := hc k x hx
      have HX := Lib.hid hx
      clear hx hc hl
      by_cases he : x.k = q
      · have HE := Lib.hid he
        have hbq : (x.k == q) = true := by simp [he]
        clear he
        go_wp2_with fail
        go_ret
        refine ⟨ret_int ?_, rfl⟩
        rw [h0.out, ofC_drop HX.out, if_pos HE.out]
      · have HE := Lib.hid he
        have hbq : (x.k == q) = false := by simp [he]
        clear he
        go_wp2_with fail
        go_round
        case rel => exact ⟨k + 1, by omega, by go_num, by show ofC l q = _; rw [h0.out, ofC_drop HX.out, if_neg HE.out]⟩
        case measure => simp [intOf]; omega
    · go_wp2_with fail
      go_ret
      refine ⟨ret_int ?_, rfl⟩
      rw [h0.out, List.drop_eq_nil_of_le (by omega)]
      rfl

theorem eq_all {l l' : List Tk} {i : Nat} (h0 : l.take i = l'.take i) (hi : l.length ≤ i) (hi' : l'.length ≤ i) : decide (l = l') = true := by
  rw [List.take_of_length_le hi, List.take_of_length_le hi'] at h0
  exact decide_eq_true h0
theorem ne_at {l l' : List Tk} {i : Nat} {x x' : Tk} (hx : l[i]? = some x) (hx' : l'[i]? = some x') (h : x ≠ x') : decide (l = l') = false := by
  refine decide_eq_false fun e => h ?_
  rw [e, hx'] at hx
  exact (Option.some.inj hx).symm
theorem ne_len {l l' : List Tk} (h : l.length ≠ l'.length) : decide (l = l') = false := decide_eq_false fun e => h (by rw [e])
theorem take_eq_succ {l l' : List Tk} {i : Nat} {x : Tk} (h0 : l.take i = l'.take i) (hx : l[i]? = some x) (hx' : l'[i]? = some x) : l.take (i + 1) = l'.take (i + 1) := by
  obtain ⟨hi, he⟩ := List.getElem?_eq_some_iff.1 hx
  obtain ⟨hi', he'⟩ := List.getElem?_eq_some_iff.1 hx'
  rw [List.take_succ_eq_append_getElem hi, List.take_succ_eq_append_getElem hi', h0, he, he']

set_option maxHeartbeats 400000 in
theorem refSame_any (A A' : Option Addr) (c c' : Nat) (l l' : List Tk) (w : World) (h : In w A c l) (h' : In w A' c' l') :
    Calls Try.prog 9 #[.slice A l.length c, .slice A' l'.length c'] w (RetV w (.bool (decide (l = l')))) := by
  obtain ⟨hl, hcap, htop, -⟩ := h
  obtain ⟨hl', -, -, -⟩ := h'
  have hlm : l.length ≤ 9223372036854775807 := by unfold maxLen at htop; omega
  clear hcap htop
  by_cases hlen : l.length = l'.length
  · have HLEN := Lib.hid hlen
    have hle : l'.length = l.length := hlen.symm
    clear hlen
    rw [hle]
    clear hle
    go_enter Try.func9, Try.ntmps9
    go_wp2_with fail
    go_loopw [5] (fun iv wr => ∃ k : Nat, k ≤ l.length ∧ iv = .int .i64 k ∧ Hid (l.take k = l'.take k) ∧ Below w.heap.size w wr) (fun iv _ => l.length - (intOf iv).toNat)
    case atStart => exact ⟨0, Nat.zero_le _, rfl, by simp [Hid], Below.refl _ _⟩
    case round =>
      obtain ⟨k, hk, rfl, h0, hbw⟩ := hrel
      by_cases hlt : k < l.length
      · have hlt' : k < l'.length := by have := HLEN.out; omega
        obtain ⟨b, off, rfl, hb, hc⟩ := (hl.below hbw).get hlt
        obtain ⟨x, hx⟩ : ∃ x, l[k]? = some x := ⟨_, List.getElem?_eq_getElem hlt⟩
        obtain ⟨hc0, hc1⟩ := hc k x hx
        have HX := Lib.hid hx
        obtain ⟨b', off', rfl, hb', hc'⟩ := (hl'.below hbw).get hlt'
        obtain ⟨y, hy⟩ : ∃ y, l'[k]? = some y := ⟨_, List.getElem?_eq_getElem hlt'⟩
        obtain ⟨hd0, hd1⟩ := hc' k y hy
        have HY := Lib.hid hy
        clear hx hc hl hy hc' hl'
        obtain ⟨xk, xn⟩ := x
        obtain ⟨yk, yn⟩ := y
        dsimp only at hc0 hc1 hd0 hd1
        have hki : (k : Int) < (l.length : Int) := by omega
        by_cases he : xk = yk ∧ xn = yn
        · obtain ⟨rfl, rfl⟩ := he
          go_wp2_with fail
          go_quiet (fail)
          go_wp2_with fail
          go_roundw
          case rel => exact ⟨k + 1, by omega, by go_num, take_eq_succ h0.out HX.out HY.out, below_drewN hbw _⟩
          case measure => simp [intOf]; omega
        · have HE := Lib.hid he
          have HNE : Hid (Tk.mk xk xn ≠ Tk.mk yk yn) := by intro e; cases e; exact HE.out ⟨rfl, rfl⟩
          by_cases hk1 : xk = yk
          · have hn1 : ¬ xn = yn := fun e => he ⟨hk1, e⟩
            have hk2 : (xk == yk) = true := by simp [hk1]
            have hn2 : (xn == yn) = false := by simp [hn1]
            clear he hk1 hn1
            go_wp2_with fail
            go_quiet (fail)
            go_wp2_with fail
            go_ret
            exact ⟨ret_bool (ne_at HX.out HY.out HNE.out).symm, below_drewN hbw _⟩
          · have hk2 : (xk == yk) = false := by simp [hk1]
            clear he hk1
            go_wp2_with fail
            go_quiet (fail)
            go_wp2_with fail
            go_ret
            exact ⟨ret_bool (ne_at HX.out HY.out HNE.out).symm, below_drewN hbw _⟩
      · go_wp2_with fail
        go_ret
        exact ⟨ret_bool (eq_all h0.out (by omega) (by have := HLEN.out; omega)).symm, hbw⟩
  · rw [ne_len hlen]
    have hne : ¬ ((l.length : Int) = l'.length) := by omega
    clear hlen
    go_enter Try.func9, Try.ntmps9
    go_wp2_with fail
    go_ret
    exact ⟨rfl, Below.refl _ _⟩
end Go.Proofs.Ytahjlckdjlafpaa
