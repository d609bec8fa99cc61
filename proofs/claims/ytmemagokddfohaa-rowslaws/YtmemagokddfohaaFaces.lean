/- What rows.With, rows.Without, rows.Both and rows.Within do, of rows that rise. No condition but that the slices read as strings that rise, at most 300000. -/
import Derived.Test.YtmemagokddfohaaWithout
namespace Go.Proofs.Ytmemagokddfohaa
open Go.RowKit

theorem RetL.from {w w1 w' : World} {ys : List Str} {e : Ending} (hb : Below w.heap.size w w1) (h : RetL w1 ys e w') : RetL w ys e w' := by
  obtain ⟨A, c, h1, h2, h3, h4, h5⟩ := h
  exact ⟨A, c, h1, h2, h3, h4, hb.trans (h5.mono hb.size)⟩

set_option maxHeartbeats 400000 in
theorem With_any (A : Option Addr) (c : Nat) (xs : List Str) (s : Str) (w : World) (hl : Lies w A xs) (hs : Srt xs) (hc : xs.length ≤ c) (hcm : c ≤ maxLen) (hn : xs.length ≤ 300000) :
    Calls Try.prog 13 #[.slice A xs.length c, .string (S s)] w (RetL w (putL s xs)) := by
  have HE : Hid (keysL (be xs [s]) = putL s xs) := be_both hs (by simp [Srt])
  clear hs
  go_enter Try.func13, Try.ntmps13
  go_wp2_with fail
  refine (with_any A _ c 1 xs [s] _ (hl.alloc _) (Lies.new w s _) hc (Nat.le_refl _) hcm (by unfold maxLen; omega) (by omega) (by simp)).mono ?_
  rintro e w' hr
  have hr2 := RetL.from ((Below.refl _ w).alloc (Nat.le_refl _) _) hr
  rw [HE.out] at hr2
  obtain ⟨A', c', rfl, h1, h2, h3, h4⟩ := hr2
  clear hr
  go_wp2
  go_ret
  exact ⟨A', c', rfl, h1, h2, h3, h4⟩

set_option maxHeartbeats 400000 in
theorem Without_any (A : Option Addr) (c : Nat) (xs : List Str) (s : Str) (w : World) (hl : Lies w A xs) (hs : Srt xs) (hc : xs.length ≤ c) (hcm : c ≤ maxLen) (hn : xs.length ≤ 300000) :
    Calls Try.prog 15 #[.slice A xs.length c, .string (S s)] w (RetL w (lessL s xs)) := by
  have HE : Hid (onlyL (be xs [s]) = lessL s xs) := only_less hs
  clear hs
  go_enter Try.func15, Try.ntmps15
  go_wp2_with fail
  refine (without_any A _ c 1 xs [s] _ (hl.alloc _) (Lies.new w s _) hc (Nat.le_refl _) hcm (by unfold maxLen; omega) (by omega) (by simp)).mono ?_
  rintro e w' hr
  have hr2 := RetL.from ((Below.refl _ w).alloc (Nat.le_refl _) _) hr
  rw [HE.out] at hr2
  obtain ⟨A', c', rfl, h1, h2, h3, h4⟩ := hr2
  clear hr
  go_wp2
  go_ret
  exact ⟨A', c', rfl, h1, h2, h3, h4⟩

set_option maxHeartbeats 400000 in
theorem Both_any (A B : Option Addr) (c d : Nat) (xs ys : List Str) (w : World) (hl : Lies w A xs) (hm : Lies w B ys) (hs : Srt xs) (hs' : Srt ys) (hc : xs.length ≤ c) (hd : ys.length ≤ d) (hcm : c ≤ maxLen) (hdm : d ≤ maxLen) (hn : xs.length ≤ 300000) (hn' : ys.length ≤ 300000) :
    Calls Try.prog 17 #[.slice A xs.length c, .slice B ys.length d] w (RetL w (bothL xs ys)) := by
  have HE : Hid (keysL (be xs ys) = bothL xs ys) := be_both hs hs'
  clear hs hs'
  go_enter Try.func17, Try.ntmps17
  go_wp2_with fail
  refine (with_any A B c d xs ys w hl hm hc hd hcm hdm (by omega) (by omega)).mono ?_
  rintro e w' hr
  rw [HE.out] at hr
  obtain ⟨A', c', rfl, h1, h2, h3, h4⟩ := hr
  go_wp2
  go_ret
  exact ⟨A', c', rfl, h1, h2, h3, h4⟩

set_option maxHeartbeats 400000 in
theorem Within_any (A B : Option Addr) (c d : Nat) (xs ys : List Str) (w : World) (hl : Lies w A xs) (hm : Lies w B ys) (hs : Srt xs) (hs' : Srt ys) (hc : xs.length ≤ c) (hd : ys.length ≤ d) (hcm : c ≤ maxLen) (hdm : d ≤ maxLen) :
    Calls Try.prog 19 #[.slice A xs.length c, .slice B ys.length d] w (RetV w (.bool (decide (Wi xs ys)))) := by
  have HE : Hid (decide (onlyL (be xs ys) = []) = decide (Wi xs ys)) := by
    show _ = _
    by_cases h : Wi xs ys
    · rw [decide_eq_true h, decide_eq_true ((only_within hs hs').2 h)]
    · rw [decide_eq_false h, decide_eq_false (fun k => h ((only_within hs hs').1 k))]
  clear hs hs'
  go_enter Try.func19, Try.ntmps19
  go_wp2_with fail
  refine (within_any A B c d xs ys w hl hm hc hd hcm hdm).mono ?_
  rintro e w' hr
  rw [HE.out] at hr
  obtain ⟨rfl, hb⟩ := hr
  go_wp2
  go_ret
  exact ⟨rfl, hb⟩
end Go.Proofs.Ytmemagokddfohaa
