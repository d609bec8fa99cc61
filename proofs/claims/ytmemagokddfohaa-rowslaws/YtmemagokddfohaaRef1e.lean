/- What Both and Without of the reference do. No condition but that the slices read us strings, at most 400000. -/
import Derived.Test.YtmemagokddfohaaRef1d
namespace Go.Proofs.Ytmemagokddfohaa
open Go.RowKit

set_option maxHeartbeats 400000 in
theorem refBoth_any (A A' : Option Addr) (c c' : Nat) (us xs : List Str) (w : World) (hla : Lies w A us) (hl : Lies w A' xs) (hna : us.length ≤ 400000) (hn : xs.length ≤ 400000) :
    Calls Try.prog 18 #[.slice A us.length c, .slice A' xs.length c'] w (RetL w (bothL us xs)) := by
  have HLA := Lib.hid hla
  clear hla
  go_enter Try.func18, Try.ntmps18
  go_wp2_with (at_builtin
               refine wpList_app _ rfl (.const (.slice none 0 0)) (.tmp 7) _ rfl w.heap.size Try.underlying22 (.slice none 0 0) [] rfl (Own.nil _ _) A us.length c us rfl rfl HLA.out ?qn ?qb ?_
               case qn => simp; omega
               case qb => simp
               intro v1 w1 hown1 hg1 hat1
               have hbw1 : Below w.heap.size w w1 := (Below.refl _ w).grown hg1 (Nat.le_refl _) (by simp [Value.ownBlock]))
  obtain ⟨B0, d0, rfl, hd0, hd1, hl0⟩ := hown1.form
  simp only [List.nil_append] at hd0 hd1 hl0 hown1 ⊢
  go_loopw [5, 6] (fun out i wr => ∃ (k : Nat) (B : Option Addr) (d : Nat) (ys : List Str), k ≤ xs.length ∧ i = .int .i64 k ∧ out = .slice B ys.length d ∧ ys.length ≤ us.length + k ∧ ys.length ≤ d ∧ d ≤ maxLen ∧ Lies wr B ys ∧ Hid (ys = bothL us (xs.take k)) ∧ Below w.heap.size w wr) (fun _ i _ => xs.length - (intOf i).toNat)
  case atStart => exact ⟨0, B0, d0, us, Nat.zero_le _, rfl, rfl, Nat.le_refl _, hd0, hd1, hl0, by simp [Hid, bothL], hbw1⟩
  case round =>
    obtain ⟨k, B, d, ys, hk, rfl, rfl, hyk, hyd, hdm, hly, h0, hbw⟩ := hrel
    by_cases hlt : k < xs.length
    · obtain ⟨b, off, rfl, hb, hc⟩ := (hl.below hbw).get hlt
      obtain ⟨x, hx⟩ : ∃ x, xs[k]? = some x := ⟨_, List.getElem?_eq_getElem hlt⟩
      have hcell := hc k x hx
      have HX := Lib.hid hx
      clear hx hc hl hat1 hg1 hown1 hl0
      go_wp2_with fail
      refine (put_any B d ys x wr hly (by omega) hyd hdm).mono ?_
      rintro e w' ⟨B', d', rfl, h1, h2, h3, h4⟩
      go_wp2
      go_roundw
      case rel =>
        refine ⟨k + 1, B', d', putL x ys, by omega, by go_num, rfl, ?_, h1, h2, h3, ?_, hbw.trans (h4.mono hbw.size)⟩
        · have := putL_len x ys; omega
        · show putL x ys = bothL us (xs.take (k + 1))
          rw [bothL_snoc HX.out, h0.out]
      case measure => simp [intOf]; omega
    · clear hat1 hg1 hown1 hl0
      go_wp2
      go_ret
      have e : bothL us xs = ys := by
        have := h0.out
        rw [List.take_of_length_le (by omega)] at this
        exact this.symm
      rw [e]
      exact ⟨B, d, rfl, hyd, hdm, hly, hbw⟩

/-- The row but s. -/
def lessL (s : Str) (xs : List Str) : List Str := xs.filter fun x => decide (x ≠ s)

theorem lessL_snoc {s x : Str} {xs : List Str} {k : Nat} (hx : xs[k]? = some x) : lessL s (xs.take (k + 1)) = lessL s (xs.take k) ++ if x = s then [] else [x] := by
  obtain ⟨hk, he⟩ := List.getElem?_eq_some_iff.1 hx
  rw [List.take_succ_eq_append_getElem hk, he, lessL, List.filter_append]
  by_cases h : x = s <;> simp [h, lessL]

theorem lessL_len (s : Str) (xs : List Str) : (lessL s xs).length ≤ xs.length := List.length_filter_le _ _

set_option maxHeartbeats 400000 in
theorem refWithout_any (A : Option Addr) (c : Nat) (xs : List Str) (s : Str) (w : World) (hl : Lies w A xs) (hn : xs.length ≤ 400000) :
    Calls Try.prog 16 #[.slice A xs.length c, .string (S s)] w (RetL w (lessL s xs)) := by
  go_enter Try.func16, Try.ntmps16
  go_wp2
  go_loopw [5, 6] (fun out i wr => ∃ (k : Nat) (ys : List Str), k ≤ xs.length ∧ i = .int .i64 k ∧ ys.length ≤ k ∧ Own wr w.heap.size out ys ∧ Hid (ys = lessL s (xs.take k)) ∧ Below w.heap.size w wr) (fun _ i _ => xs.length - (intOf i).toNat)
  case atStart => exact ⟨0, [], Nat.zero_le _, rfl, Nat.le_refl _, Own.nil _ _, by simp [Hid, lessL], Below.refl _ _⟩
  case round =>
    obtain ⟨k, ys, hk, rfl, hyk, hown, h0, hbw⟩ := hrel
    by_cases hlt : k < xs.length
    · obtain ⟨b, off, rfl, hb, hc⟩ := (hl.below hbw).get hlt
      obtain ⟨x, hx⟩ : ∃ x, xs[k]? = some x := ⟨_, List.getElem?_eq_getElem hlt⟩
      have hcell := hc k x hx
      have HX := Lib.hid hx
      clear hx hc hl
      by_cases hxs : x = s
      · subst hxs
        go_wp2
        go_roundw
        case rel => exact ⟨k + 1, ys, by omega, by go_num, by omega, hown, by show ys = _; rw [lessL_snoc HX.out, if_pos rfl, List.append_nil, h0.out], hbw⟩
        case measure => simp [intOf]; omega
      · have hb2 := beq_str hxs
        have HN := Lib.hid hxs
        clear hxs
        go_wp2_with (at_builtin
                     refine wpList_app _ rfl (.tmp 19) (.tmp 24) _ rfl w.heap.size Try.underlying22 _ ys rfl (hown.alloc _) (some ⟨wr.heap.size, 0, none⟩) 1 1 [x] rfl rfl (Lies.new _ _ _) ?qn ?qb ?_
                     case qn => simp; omega
                     case qb => (have := hbw.size; simp; omega)
                     intro v2 w2 hown2 hg2 hat2
                     have hbw2 : Below w.heap.size w w2 := (hbw.alloc hbw.size _).grown hg2 (by have := hbw.size; simp; omega) (fun k hk => (hown.lt hk).1))
        go_roundw
        case rel => exact ⟨k + 1, ys ++ [x], by omega, by go_num, by simp; omega, hown2, by show ys ++ [x] = _; rw [lessL_snoc HX.out, if_neg HN.out, h0.out], hbw2⟩
        case measure => simp [intOf]; omega
    · go_wp2
      go_ret
      refine retL_of_own hown ?_ hbw
      have := h0.out
      rwa [List.take_of_length_le (by omega)] at this
end Go.Proofs.Ytmemagokddfohaa
