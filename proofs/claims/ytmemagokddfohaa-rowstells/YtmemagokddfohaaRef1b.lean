/- What Rises does, of the reference, and rises, of the program. No condition but that the slices read as strings. -/
import Derived.Test.YtmemagokddfohaaRows
import Derived.Test.YtmemagokddfohaaOrd
namespace Go.Proofs.Ytmemagokddfohaa
open Go.RowKit

set_option maxHeartbeats 400000 in
theorem refRises_any (A : Option Addr) (c : Nat) (xs : List Str) (w : World) (hl : Lies w A xs) (hn : xs.length ≤ maxLen) :
    Calls Try.prog 7 #[.slice A xs.length c] w fun e w' => e = .returned (.bool (decide (Srt xs))) ∧ ∃ n, w' = w.drewN n := by
  unfold maxLen at hn
  go_enter Try.func7, Try.ntmps7
  go_wp2
  go_loopw [3] (fun i wr => ∃ k n : Nat, (k + 1 ≤ xs.length ∨ k = 0) ∧ i = .int .i64 (k + 1 : Nat) ∧ wr = w.drewN n ∧ Hid (Srt (xs.take (k + 1)))) (fun i _ => xs.length - (intOf i).toNat)
  case atStart => exact ⟨0, 0, .inr rfl, rfl, rfl, srt_take_one xs⟩
  case round =>
    obtain ⟨k, n, hk, rfl, rfl, h0⟩ := hrel
    by_cases hlt : k + 1 < xs.length
    · obtain ⟨b, off, rfl, hb, hc⟩ := hl.get hlt
      obtain ⟨x, hx⟩ : ∃ x, xs[k]? = some x := ⟨_, List.getElem?_eq_getElem (by omega)⟩
      obtain ⟨y, hy⟩ : ∃ x, xs[k + 1]? = some x := ⟨_, List.getElem?_eq_getElem hlt⟩
      have hcx := hc k x hx
      have hcy := hc (k + 1) y hy
      have HX := Lib.hid hx
      have HY := Lib.hid hy
      clear hx hy hc hl
      by_cases hxy : x < y
      · have hb2 := bl_true hxy
        have HN := Lib.hid hxy
        clear hxy
        go_wp2
        go_quiet (fail)
        go_wp2
        go_roundw
        case rel => exact ⟨k + 1, _, by omega, by go_num, rfl, srt_snoc h0.out HX.out HY.out HN.out⟩
        case measure => simp [intOf]; omega
      · have hb2 := bl_false hxy
        have HN := Lib.hid hxy
        clear hxy
        go_wp2
        go_quiet (fail)
        go_wp2
        go_ret
        exact ⟨ret_bool (decide_eq_false (srt_no HX.out HY.out HN.out)).symm, drew2 _ _ _⟩
    · go_wp2
      go_ret
      exact ⟨ret_bool (decide_eq_true (srt_all h0.out (by omega))).symm, _, rfl⟩

set_option maxHeartbeats 400000 in
theorem rises_any (A : Option Addr) (c : Nat) (xs : List Str) (w : World) (hl : Lies w A xs) (hn : xs.length ≤ maxLen) :
    Calls Try.prog 21 #[.slice A xs.length c] w fun e w' => e = .returned (.bool (decide (Srt xs))) ∧ ∃ n, w' = w.drewN n := by
  unfold maxLen at hn
  go_enter Try.func21, Try.ntmps21
  go_wp2
  go_loopw [3] (fun i wr => ∃ k n : Nat, (k + 1 ≤ xs.length ∨ k = 0) ∧ i = .int .i64 (k + 1 : Nat) ∧ wr = w.drewN n ∧ Hid (Srt (xs.take (k + 1)))) (fun i _ => xs.length - (intOf i).toNat)
  case atStart => exact ⟨0, 0, .inr rfl, rfl, rfl, srt_take_one xs⟩
  case round =>
    obtain ⟨k, n, hk, rfl, rfl, h0⟩ := hrel
    by_cases hlt : k + 1 < xs.length
    · obtain ⟨b, off, rfl, hb, hc⟩ := hl.get hlt
      obtain ⟨x, hx⟩ : ∃ x, xs[k]? = some x := ⟨_, List.getElem?_eq_getElem (by omega)⟩
      obtain ⟨y, hy⟩ : ∃ x, xs[k + 1]? = some x := ⟨_, List.getElem?_eq_getElem hlt⟩
      have hcx := hc k x hx
      have hcy := hc (k + 1) y hy
      have HX := Lib.hid hx
      have HY := Lib.hid hy
      clear hx hy hc hl
      by_cases hxy : x < y
      · have hb2 := bl_false (str_asymm hxy)
        have hb3 := beq_str (fun e : y = x => str_irrefl x (e ▸ hxy))
        have HN := Lib.hid hxy
        clear hxy
        go_wp2
        go_quiet (fail)
        go_wp2
        go_roundw
        case rel => exact ⟨k + 1, _, by omega, by go_num, rfl, srt_snoc h0.out HX.out HY.out HN.out⟩
        case measure => simp [intOf]; omega
      · have hb2 : (Op.bytesLess y x || y == x) = true := by
          rcases str_tri x y with h | h | h
          · exact absurd h hxy
          · subst h; simp
          · rw [bl_true h]; rfl
        have HN := Lib.hid hxy
        clear hxy
        go_wp2
        go_quiet (fail)
        go_wp2
        go_ret
        exact ⟨ret_bool (decide_eq_false (srt_no HX.out HY.out HN.out)).symm, drew2 _ _ _⟩
    · go_wp2
      go_ret
      exact ⟨ret_bool (decide_eq_true (srt_all h0.out (by omega))).symm, _, rfl⟩

set_option maxHeartbeats 400000 in
theorem is_any (A : Option Addr) (c : Nat) (xs : List Str) (w : World) (hl : Lies w A xs) (hn : xs.length ≤ maxLen) :
    Calls Try.prog 6 #[.slice A xs.length c] w fun e w' => e = .returned (.bool (decide (Srt xs))) ∧ ∃ n, w' = w.drewN n := by
  go_enter Try.func6, Try.ntmps6
  go_wp2_with fail
  refine (rises_any A c xs w hl hn).mono ?_
  rintro e w' ⟨rfl, n, rfl⟩
  go_wp2
  go_ret
  exact ⟨rfl, n, rfl⟩
end Go.Proofs.Ytmemagokddfohaa
