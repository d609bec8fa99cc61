/- What SameTexts and Within of the reference do. No condition but that the slices read as strings. -/
import Derived.Test.YtmemagokddfohaaRef1
import Derived.Test.YtmemagokddfohaaOrd
namespace Go.Proofs.Ytmemagokddfohaa
open Go.RowKit

theorem take_eq_snoc {xs ys : List Str} {k : Nat} {x : Str} (h : xs.take k = ys.take k) (hx : xs[k]? = some x) (hy : ys[k]? = some x) : xs.take (k + 1) = ys.take (k + 1) := by
  obtain ⟨hk, he⟩ := List.getElem?_eq_some_iff.1 hx
  obtain ⟨hk', he'⟩ := List.getElem?_eq_some_iff.1 hy
  rw [List.take_succ_eq_append_getElem hk, List.take_succ_eq_append_getElem hk', h, he, he']

theorem ne_of_at {xs ys : List Str} {k : Nat} {x y : Str} (hx : xs[k]? = some x) (hy : ys[k]? = some y) (hne : x ≠ y) : xs ≠ ys := by
  rintro rfl
  rw [hx] at hy
  exact hne (Option.some.inj hy)

set_option maxHeartbeats 400000 in
theorem same_any (A B : Option Addr) (c d : Nat) (xs ys : List Str) (w : World) (hl : Lies w A xs) (hm : Lies w B ys) (hn : xs.length ≤ maxLen) :
    Calls Try.prog 8 #[.slice A xs.length c, .slice B ys.length d] w fun e w' => e = .returned (.bool (decide (xs = ys))) ∧ ∃ n, w' = w.drewN n := by
  unfold maxLen at hn
  by_cases hlen : xs.length = ys.length
  · have hbn : ((xs.length : Int) != (ys.length : Int)) = false := by simp [hlen]
    have HL := Lib.hid hlen
    have hle : xs.length ≤ ys.length := by omega
    clear hlen
    go_enter Try.func8, Try.ntmps8
    go_wp2
    go_loopw [5] (fun i wr => ∃ k n : Nat, k ≤ xs.length ∧ i = .int .i64 k ∧ wr = w.drewN n ∧ Hid (xs.take k = ys.take k)) (fun i _ => xs.length - (intOf i).toNat)
    case atStart => exact ⟨0, 0, Nat.zero_le _, rfl, rfl, by simp [Hid]⟩
    case round =>
      obtain ⟨k, n, hk, rfl, rfl, h0⟩ := hrel
      by_cases hlt : k < xs.length
      · obtain ⟨b, off, rfl, hb, hc⟩ := hl.get hlt
        obtain ⟨b', off', rfl, hb', hc'⟩ := hm.get (show k < ys.length by omega)
        obtain ⟨x, hx⟩ : ∃ x, xs[k]? = some x := ⟨_, List.getElem?_eq_getElem hlt⟩
        obtain ⟨y, hy⟩ : ∃ x, ys[k]? = some x := ⟨_, List.getElem?_eq_getElem (by omega)⟩
        have hcx := hc k x hx
        have hcy := hc' k y hy
        have hlt' : k < ys.length := by omega
        have HX := Lib.hid hx
        have HY := Lib.hid hy
        clear hx hy hc hl hc' hm
        by_cases hxy : x = y
        · subst hxy
          go_wp2
          go_quiet (fail)
          go_wp2
          go_roundw
          case rel => exact ⟨k + 1, _, by omega, by go_num, rfl, take_eq_snoc h0.out HX.out HY.out⟩
          case measure => simp [intOf]; omega
        · have hb2 := beq_str hxy
          have HN := Lib.hid hxy
          clear hxy
          go_wp2
          go_quiet (fail)
          go_wp2
          go_ret
          exact ⟨ret_bool (decide_eq_false (ne_of_at HX.out HY.out HN.out)).symm, drew2 _ _ _⟩
      · go_wp2
        go_ret
        refine ⟨ret_bool (decide_eq_true ?_).symm, _, rfl⟩
        have := h0.out
        rwa [List.take_of_length_le (by omega), List.take_of_length_le (by have := HL.out; omega)] at this
  · have hbn : ((xs.length : Int) != (ys.length : Int)) = true := by simp; omega
    have HL := Lib.hid hlen
    clear hlen
    go_enter Try.func8, Try.ntmps8
    go_wp2
    go_ret
    exact ⟨ret_bool (decide_eq_false (fun e => HL.out (by rw [e]))).symm, 0, rfl⟩

/-- All of xs are in ys. -/
abbrev Wi (xs ys : List Str) : Prop := ∀ x ∈ xs, x ∈ ys

theorem wi_snoc {xs ys : List Str} {k : Nat} {x : Str} (h : Wi (xs.take k) ys) (hx : xs[k]? = some x) (hm : x ∈ ys) : Wi (xs.take (k + 1)) ys := by
  obtain ⟨hk, he⟩ := List.getElem?_eq_some_iff.1 hx
  rw [List.take_succ_eq_append_getElem hk, he]
  intro a ha
  rcases List.mem_append.1 ha with h1 | h1
  · exact h a h1
  · rw [List.mem_singleton.1 h1]; exact hm

theorem wi_no {xs ys : List Str} {k : Nat} {x : Str} (hx : xs[k]? = some x) (hm : x ∉ ys) : ¬ Wi xs ys := by
  intro h
  exact hm (h x (List.mem_of_getElem? hx))

set_option maxHeartbeats 400000 in
theorem refWithin_any (A B : Option Addr) (c d : Nat) (xs ys : List Str) (w : World) (hl : Lies w A xs) (hm : Lies w B ys) (hn : xs.length ≤ maxLen) (hn' : ys.length ≤ maxLen) :
    Calls Try.prog 20 #[.slice A xs.length c, .slice B ys.length d] w fun e w' => e = .returned (.bool (decide (Wi xs ys))) ∧ w = w' := by
  have hbd := hn
  unfold maxLen at hn
  go_enter Try.func20, Try.ntmps20
  go_wp2
  go_loop [5] (fun i => ∃ k : Nat, k ≤ xs.length ∧ i = .int .i64 k ∧ Hid (Wi (xs.take k) ys)) (fun i => xs.length - (intOf i).toNat)
  case atStart => exact ⟨0, Nat.zero_le _, rfl, fun _ hx => by simp at hx⟩
  case round =>
    obtain ⟨k, hk, rfl, h0⟩ := hrel
    by_cases hlt : k < xs.length
    · obtain ⟨b, off, rfl, hb, hc⟩ := hl.get hlt
      obtain ⟨x, hx⟩ : ∃ x, xs[k]? = some x := ⟨_, List.getElem?_eq_getElem hlt⟩
      have hcell := hc k x hx
      have HX := Lib.hid hx
      clear hx hc hl
      by_cases hxs : x ∈ ys
      · have ht : decide (atI ys x < 0) = false := by
          unfold atI; rw [if_pos hxs]; simp
        have HN := Lib.hid hxs
        clear hxs
        go_wp2_with (go_at_call 12; refine (at_any B d ys x w hm hn').mono ?_; rintro e w' ⟨rfl, rfl⟩)
        go_round
        case rel => exact ⟨k + 1, by omega, by go_num, wi_snoc h0.out HX.out HN.out⟩
        case measure => simp [intOf]; omega
      · have ht : decide (atI ys x < 0) = true := by
          unfold atI; rw [if_neg hxs]; decide
        have HN := Lib.hid hxs
        clear hxs
        go_wp2_with (go_at_call 12; refine (at_any B d ys x w hm hn').mono ?_; rintro e w' ⟨rfl, rfl⟩)
        go_ret
        exact ⟨ret_bool (decide_eq_false (wi_no HX.out HN.out)).symm, rfl⟩
    · go_wp2
      go_ret
      refine ⟨ret_bool (decide_eq_true ?_).symm, rfl⟩
      have := h0.out
      rwa [List.take_of_length_le (by omega)] at this
end Go.Proofs.Ytmemagokddfohaa
