/- What the reference's functions on rows do: At, SameTexts, Rises, Within. No condition but that the slices read as strings. -/
import Derived.Test.YtmemagokddfohaaRows
import Derived.Test.YtmemagokddfohaaWords
namespace Go.Proofs.Ytmemagokddfohaa
open Go.RowKit

/-- The place of s in xs, or -1. -/
def atI (xs : List Str) (s : Str) : Int := if s ∈ xs then (xs.idxOf s : Nat) else -1

theorem atI_hit {xs : List Str} {s : Str} {k : Nat} (h0 : s ∉ xs.take k) (h : xs[k]? = some s) : (k : Int) = atI xs s := by
  have hk : k < xs.length := (List.getElem?_eq_some_iff.1 h).1
  have he : xs[k] = s := (List.getElem?_eq_some_iff.1 h).2
  have hm : s ∈ xs := he ▸ List.getElem_mem hk
  unfold atI
  rw [if_pos hm]
  have : xs.idxOf s = k := by
    conv => lhs; rw [← List.take_append_drop k xs]
    rw [List.idxOf_append, if_neg h0, List.drop_eq_getElem_cons hk, he]
    simp [List.length_take]
    omega
  rw [this]

theorem atI_miss {xs : List Str} {s : Str} {k : Nat} (h0 : s ∉ xs.take k) (hk : xs.length ≤ k) : -1 = atI xs s := by
  unfold atI
  rw [List.take_of_length_le hk] at h0
  rw [if_neg h0]

theorem notin_succ {xs : List Str} {s x : Str} {k : Nat} (h0 : s ∉ xs.take k) (h : xs[k]? = some x) (hne : x ≠ s) : s ∉ xs.take (k + 1) := by
  obtain ⟨hk, he⟩ := List.getElem?_eq_some_iff.1 h
  rw [List.take_succ_eq_append_getElem hk, List.mem_append, not_or]
  exact ⟨h0, by simp [he]; exact fun e => hne e.symm⟩

set_option maxHeartbeats 400000 in
theorem at_any (A : Option Addr) (c : Nat) (xs : List Str) (s : Str) (w : World) (hl : Lies w A xs) (hn : xs.length ≤ maxLen) :
    Calls Try.prog 12 #[.slice A xs.length c, .string (S s)] w fun e w' => e = .returned (.int .i64 (atI xs s)) ∧ w = w' := by
  unfold maxLen at hn
  go_enter Try.func12, Try.ntmps12
  go_wp2
  go_loop [5] (fun i => ∃ k : Nat, k ≤ xs.length ∧ i = .int .i64 k ∧ Hid (s ∉ xs.take k)) (fun i => xs.length - (intOf i).toNat)
  case atStart => exact ⟨0, Nat.zero_le _, rfl, by simp [Hid]⟩
  case round =>
    obtain ⟨k, hk, rfl, h0⟩ := hrel
    by_cases hlt : k < xs.length
    · obtain ⟨b, off, rfl, hb, hc⟩ := hl.get hlt
      obtain ⟨x, hx⟩ : ∃ x, xs[k]? = some x := ⟨_, List.getElem?_eq_getElem hlt⟩
      have hcell := hc k x hx
      have HX := Lib.hid hx
      clear hx hc hl
      by_cases hxs : x = s
      · subst hxs
        go_wp2
        go_ret
        exact ⟨ret_int (atI_hit h0.out HX.out), rfl⟩
      · have hb2 := beq_str hxs
        have HN := Lib.hid hxs
        clear hxs
        go_wp2
        go_round
        case rel => exact ⟨k + 1, by omega, by go_num, notin_succ h0.out HX.out HN.out⟩
        case measure => simp [intOf]; omega
    · go_wp2
      go_ret
      exact ⟨ret_int (atI_miss h0.out (by omega)), rfl⟩
end Go.Proofs.Ytmemagokddfohaa
