/- What rows.Has does, of a row that rises. No condition but that the slice reads as strings that rise, at most 400000. -/
import Derived.Test.YtmemagokddfohaaNorm
namespace Go.Proofs.Ytmemagokddfohaa
open Go.RowKit

set_option maxHeartbeats 400000 in
theorem isNaN_any (x : Str) (w : World) : Calls Try.prog 48 #[.string (S x)] w fun e w' => e = .returned (.bool false) ∧ w = w' := by
  go_enter Try.func48, Try.ntmps48
  go_wp2
  go_ret
  exact ⟨rfl, rfl⟩

set_option maxHeartbeats 400000 in
theorem isNaN2_any (x : Str) (w : World) : Calls Try.prog 35 #[.string (S x)] w fun e w' => e = .returned (.bool false) ∧ w = w' := by
  go_enter Try.func35, Try.ntmps35
  go_wp2
  go_ret
  exact ⟨rfl, rfl⟩

set_option maxHeartbeats 400000 in
theorem less_any (x y : Str) (w : World) : Calls Try.prog 34 #[.string (S x), .string (S y)] w fun e w' => e = .returned (.bool (Op.bytesLess x y)) ∧ w = w' := by
  go_enter Try.func34, Try.ntmps34
  go_wp2_with (go_at_call 48; refine (isNaN_any _ _).mono ?_; rintro e w' ⟨rfl, rfl⟩)
  go_ret
  exact ⟨rfl, rfl⟩

/-- A call that answers a place, whichever, and b. -/
def RetPos (w : World) (b : Bool) (e : Ending) (w' : World) : Prop := ∃ i : Int, e = .returned (.tuple #[.int .i64 i, .bool b]) ∧ w = w'

theorem take_mono {xs : List Str} {s : Str} {m : Nat} {y : Str} (h : Srt xs) (hy : xs[m]? = some y) (hlt : y < s) : ∀ x ∈ xs.take (m + 1), x < s := by
  intro x hx
  obtain ⟨hm, he⟩ := List.getElem?_eq_some_iff.1 hy
  obtain ⟨i, hi, rfl⟩ := List.mem_iff_getElem.1 hx
  simp only [List.getElem_take]
  have hi' : i < m + 1 := by simp at hi; omega
  rcases Nat.lt_or_ge i m with h1 | h1
  · have := List.pairwise_iff_getElem.1 h i m (by omega) hm h1
    rw [he] at this
    exact str_trans this hlt
  · have : i = m := by omega
    subst this
    rw [he]; exact hlt

theorem drop_mono {xs : List Str} {s : Str} {m : Nat} {y : Str} (h : Srt xs) (hy : xs[m]? = some y) (hge : ¬ y < s) : ∀ x ∈ xs.drop m, ¬ x < s := by
  intro x hx
  obtain ⟨hm, he⟩ := List.getElem?_eq_some_iff.1 hy
  rw [List.drop_eq_getElem_cons hm, he] at hx
  rcases List.mem_cons.1 hx with e | e
  · rw [e]; exact hge
  · intro hlt
    have hp : Srt (xs.drop m) := h.drop
    rw [List.drop_eq_getElem_cons hm, he] at hp
    exact hge (str_trans ((List.pairwise_cons.1 hp).1 x e) hlt)

theorem found_yes {xs : List Str} {s : Str} {m : Nat} (hy : xs[m]? = some s) : true = decide (s ∈ xs) := (decide_eq_true (List.mem_of_getElem? hy)).symm

theorem found_no {xs : List Str} {s : Str} {m : Nat} (h : Srt xs) (h1 : ∀ x ∈ xs.take m, x < s) (h2 : ∀ y, xs[m]? = some y → s < y) : false = decide (s ∈ xs) := by
  refine (decide_eq_false fun hs => ?_).symm
  rw [← List.take_append_drop m xs] at hs
  rcases List.mem_append.1 hs with k | k
  · exact str_irrefl s (h1 s k)
  · cases hx : xs[m]? with
    | none =>
      rw [List.getElem?_eq_none_iff] at hx
      rw [List.drop_eq_nil_of_le hx] at k
      cases k
    | some y =>
      have hlt := h2 y hx
      exact drop_mono (s := y) h hx (str_irrefl y) s k hlt

theorem tup_eq {i : Int} {a b : Bool} (h : a = b) : Ending.returned (.tuple #[.int .i64 i, .bool a]) = .returned (.tuple #[.int .i64 i, .bool b]) := by rw [h]

set_option maxHeartbeats 1000000 in
theorem search_any (A : Option Addr) (c : Nat) (xs : List Str) (s : Str) (w : World) (hl : Lies w A xs) (hs : Srt xs) (hn : xs.length ≤ 400000) :
    Calls Try.prog 30 #[.slice A xs.length c, .string (S s)] w (RetPos w (decide (s ∈ xs))) := by
  have HS := Lib.hid hs
  clear hs
  go_enter Try.func30, Try.ntmps30
  go_wp2
  go_loop [7, 8] (fun i j => ∃ lo hi : Nat, lo ≤ hi ∧ hi ≤ xs.length ∧ i = .int .i64 lo ∧ j = .int .i64 hi ∧ Hid (∀ x ∈ xs.take lo, x < s) ∧ Hid (∀ x ∈ xs.drop hi, ¬ x < s)) (fun i j => (intOf j).toNat - (intOf i).toNat)
  case atStart => exact ⟨0, xs.length, Nat.zero_le _, Nat.le_refl _, rfl, rfl, by simp [Hid], by simp [Hid]⟩
  case round =>
    obtain ⟨lo, hi, hlh, hin, rfl, rfl, h1, h2⟩ := hrel
    by_cases hlt : lo < hi
    · have hmid : (lo + hi) / 2 < xs.length := by omega
      obtain ⟨b, off, rfl, hb, hc⟩ := hl.get hmid
      obtain ⟨y, hy⟩ : ∃ y, xs[(lo + hi) / 2]? = some y := ⟨_, List.getElem?_eq_getElem hmid⟩
      have hcell := hc _ y hy
      have HY := Lib.hid hy
      clear hy hc hl
      by_cases hys : y < s
      · have hb1 := bl_true hys
        have HN := Lib.hid hys
        clear hys
        go_wp2_with (go_at_call 34; refine (less_any _ _ _).mono ?_; rintro e w' ⟨rfl, rfl⟩)
        go_round
        case rel => exact ⟨(lo + hi) / 2 + 1, hi, by omega, hin, by rw [show ((lo : Int) + (hi : Int)) / 2 + 1 = (((lo + hi) / 2 + 1 : Nat) : Int) by omega], rfl, take_mono HS.out HY.out HN.out, h2⟩
        case measure => simp [intOf]; omega
      · have hb1 := bl_false hys
        have HN := Lib.hid hys
        clear hys
        go_wp2_with (go_at_call 34; refine (less_any _ _ _).mono ?_; rintro e w' ⟨rfl, rfl⟩)
        go_round
        case rel => exact ⟨lo, (lo + hi) / 2, by omega, by omega, rfl, by rw [show ((lo : Int) + (hi : Int)) / 2 = (((lo + hi) / 2 : Nat) : Int) by omega], h1, drop_mono HS.out HY.out HN.out⟩
        case measure => simp [intOf]; omega
    · obtain rfl : lo = hi := by omega
      by_cases hmid : lo < xs.length
      · obtain ⟨b, off, rfl, hb, hc⟩ := hl.get hmid
        obtain ⟨y, hy⟩ : ∃ y, xs[lo]? = some y := ⟨_, List.getElem?_eq_getElem hmid⟩
        have hcell := hc _ y hy
        have HY := Lib.hid hy
        clear hy hc hl
        by_cases hys : y = s
        · subst hys
          go_wp2
          go_ret2
          exact ⟨_, tup_eq (found_yes HY.out), rfl⟩
        · have hb1 := beq_str hys
          have HN := Lib.hid hys
          clear hys
          go_wp2_with (go_at_call 35; refine (isNaN2_any _ _).mono ?_; rintro e w' ⟨rfl, rfl⟩)
          go_ret2
          refine ⟨_, tup_eq (found_no HS.out h1.out fun z hz => ?_), rfl⟩
          have e : y = z := by have := HY.out; rw [hz] at this; exact (Option.some.inj this).symm
          subst e
          have hge : ¬ y < s := h2.out y (by rw [List.drop_eq_getElem_cons hmid]; simp [(List.getElem?_eq_some_iff.1 hz).2])
          rcases str_tri y s with k | k | k
          · exact absurd k hge
          · exact absurd k HN.out
          · exact k
      · go_wp2
        go_ret2
        exact ⟨_, tup_eq (found_no HS.out h1.out fun z hz => absurd (List.getElem?_eq_some_iff.1 hz).1 hmid), rfl⟩

set_option maxHeartbeats 400000 in
theorem has1_any (A : Option Addr) (c : Nat) (xs : List Str) (s : Str) (w : World) (hl : Lies w A xs) (hs : Srt xs) (hn : xs.length ≤ 400000) :
    Calls Try.prog 23 #[.slice A xs.length c, .string (S s)] w fun e w' => e = .returned (.bool (decide (s ∈ xs))) ∧ w = w' := by
  have HS := Lib.hid hs
  clear hs
  go_enter Try.func23, Try.ntmps23
  go_wp2_with fail
  refine (search_any A c xs s w hl HS.out hn).mono ?_
  rintro e w' ⟨i, rfl, rfl⟩
  go_wp2
  go_ret
  exact ⟨rfl, rfl⟩

set_option maxHeartbeats 400000 in
theorem has_any (A : Option Addr) (c : Nat) (xs : List Str) (s : Str) (w : World) (hl : Lies w A xs) (hs : Srt xs) (hn : xs.length ≤ 400000) :
    Calls Try.prog 11 #[.slice A xs.length c, .string (S s)] w fun e w' => e = .returned (.bool (decide (s ∈ xs))) ∧ w = w' := by
  have HS := Lib.hid hs
  clear hs
  go_enter Try.func11, Try.ntmps11
  go_wp2_with fail
  refine (has1_any A c xs s w hl HS.out hn).mono ?_
  rintro e w' ⟨rfl, rfl⟩
  go_wp2
  go_ret
  exact ⟨rfl, rfl⟩
end Go.Proofs.Ytmemagokddfohaa
