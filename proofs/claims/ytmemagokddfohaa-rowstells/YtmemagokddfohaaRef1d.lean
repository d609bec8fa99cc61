/- What Sort and Both of the reference do. No condition but that the slices read as strings, at most 400000. -/
import Derived.Test.YtmemagokddfohaaPut
namespace Go.Proofs.Ytmemagokddfohaa
open Go.RowKit

/-- The strings of b put, one by one, into a. -/
def bothL (a b : List Str) : List Str := b.foldl (fun acc x => putL x acc) a
/-- The strings put, one by one, into nothing. -/
def sortL (xs : List Str) : List Str := bothL [] xs

theorem putL_len (s : Str) : ∀ xs : List Str, (putL s xs).length ≤ xs.length + 1
  | [] => by simp [putL]
  | x :: r => by
    have := putL_len s r
    unfold putL
    split
    · simp
    · split
      · simp
      · simp; omega

theorem bothL_snoc {a xs : List Str} {k : Nat} {x : Str} (hx : xs[k]? = some x) : bothL a (xs.take (k + 1)) = putL x (bothL a (xs.take k)) := by
  obtain ⟨hk, he⟩ := List.getElem?_eq_some_iff.1 hx
  rw [List.take_succ_eq_append_getElem hk, he]
  simp [bothL, List.foldl_append]

theorem bothL_len (a : List Str) : ∀ b : List Str, (bothL a b).length ≤ a.length + b.length := by
  intro b
  induction b generalizing a with
  | nil => simp [bothL]
  | cons x r ih =>
    have h1 := ih (putL x a)
    have h2 := putL_len x a
    unfold bothL at h1 ⊢
    simp only [List.foldl_cons, List.length_cons]
    omega

set_option maxHeartbeats 400000 in
theorem refSort_any (A : Option Addr) (c : Nat) (xs : List Str) (w : World) (hl : Lies w A xs) (hn : xs.length ≤ 400000) :
    Calls Try.prog 10 #[.slice A xs.length c] w (RetL w (sortL xs)) := by
  go_enter Try.func10, Try.ntmps10
  go_wp2
  go_loopw [3, 4] (fun out i wr => ∃ (k : Nat) (B : Option Addr) (d : Nat) (ys : List Str), k ≤ xs.length ∧ i = .int .i64 k ∧ out = .slice B ys.length d ∧ ys.length ≤ k ∧ ys.length ≤ d ∧ d ≤ maxLen ∧ Lies wr B ys ∧ Hid (ys = sortL (xs.take k)) ∧ Below w.heap.size w wr) (fun _ i _ => xs.length - (intOf i).toNat)
  case atStart => exact ⟨0, none, 0, [], Nat.zero_le _, rfl, rfl, Nat.le_refl _, Nat.le_refl _, Nat.zero_le _, Lies.nil, by simp [Hid, sortL, bothL], Below.refl _ _⟩
  case round =>
    obtain ⟨k, B, d, ys, hk, rfl, rfl, hyk, hyd, hdm, hly, h0, hbw⟩ := hrel
    by_cases hlt : k < xs.length
    · obtain ⟨b, off, rfl, hb, hc⟩ := (hl.below hbw).get hlt
      obtain ⟨x, hx⟩ : ∃ x, xs[k]? = some x := ⟨_, List.getElem?_eq_getElem hlt⟩
      have hcell := hc k x hx
      have HX := Lib.hid hx
      clear hx hc hl
      go_wp2_with fail
      refine (put_any B d ys x wr hly (by omega) hyd hdm).mono ?_
      rintro e w' ⟨B', d', rfl, h1, h2, h3, h4⟩
      go_wp2
      go_roundw
      case rel =>
        refine ⟨k + 1, B', d', putL x ys, by omega, by go_num, rfl, ?_, h1, h2, h3, ?_, hbw.trans (h4.mono hbw.size)⟩
        · have := putL_len x ys; omega
        · have e := bothL_snoc (a := []) HX.out
          show putL x ys = sortL (xs.take (k + 1))
          rw [sortL, e, h0.out]; rfl
      case measure => simp [intOf]; omega
    · go_wp2
      go_ret
      have e : sortL xs = ys := by
        have := h0.out
        rw [List.take_of_length_le (by omega)] at this
        exact this.symm
      rw [e]
      exact ⟨B, d, rfl, hyd, hdm, hly, hbw⟩
end Go.Proofs.Ytmemagokddfohaa
