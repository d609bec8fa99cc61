/- What Put of the reference does. No condition but that the slice reads as strings, at most 900000. -/
import Derived.Test.YtmemagokddfohaaOrd
import Derived.Test.YtmemagokddfohaaOwn
namespace Go.Proofs.Ytmemagokddfohaa
open Go.RowKit

/-- s put into a row, where it is not there yet. -/
def putL (s : Str) : List Str → List Str
  | [] => [s]
  | x :: r => if x = s then x :: r else if s < x then s :: x :: r else x :: putL s r

theorem putL_hit {s : Str} : ∀ {xs : List Str} {k : Nat}, (∀ x ∈ xs.take k, x < s) → xs[k]? = some s → xs = putL s xs
  | [], _, _, h => by simp at h
  | x :: r, 0, _, h => by
    simp at h
    simp [putL, h]
  | x :: r, k + 1, h0, h => by
    have hx : x < s := h0 x (by simp)
    have e := putL_hit (s := s) (xs := r) (k := k) (fun y hy => h0 y (by simp [hy])) (by simpa using h)
    rw [putL, if_neg (ne_of_slt hx), if_neg (str_asymm hx), ← e]

theorem putL_mid {s : Str} : ∀ {xs : List Str} {k : Nat} {y : Str}, (∀ x ∈ xs.take k, x < s) → xs[k]? = some y → s < y → xs.take k ++ [s] ++ xs.drop k = putL s xs
  | [], _, _, _, h, _ => by simp at h
  | x :: r, 0, y, _, h, hy => by
    simp at h
    subst h
    have hne : x ≠ s := fun e => str_irrefl s (by rw [e] at hy; exact hy)
    simp [putL, hy, hne]
  | x :: r, k + 1, y, h0, h, hy => by
    have hx : x < s := h0 x (by simp)
    have e := putL_mid (s := s) (xs := r) (k := k) (fun y hy => h0 y (by simp [hy])) (by simpa using h) hy
    rw [putL, if_neg (ne_of_slt hx), if_neg (str_asymm hx), ← e]
    simp

theorem putL_end {s : Str} : ∀ {xs : List Str}, (∀ x ∈ xs, x < s) → xs ++ [s] = putL s xs
  | [], _ => rfl
  | x :: r, h0 => by
    have hx : x < s := h0 x (by simp)
    have e := putL_end (s := s) (xs := r) (fun y hy => h0 y (by simp [hy]))
    rw [putL, if_neg (ne_of_slt hx), if_neg (str_asymm hx), ← e]
    simp

theorem lt_snoc {xs : List Str} {s y : Str} {k : Nat} (h : ∀ x ∈ xs.take k, x < s) (hy : xs[k]? = some y) (hlt : y < s) : ∀ x ∈ xs.take (k + 1), x < s := by
  obtain ⟨hk, he⟩ := List.getElem?_eq_some_iff.1 hy
  rw [List.take_succ_eq_append_getElem hk, he]
  intro a ha
  rcases List.mem_append.1 ha with h1 | h1
  · exact h a h1
  · rw [List.mem_singleton.1 h1]; exact hlt

theorem Lies.take {w : World} {b off : Nat} {xs : List Str} (hb : b < w.heap.size) (h : ∀ i x, xs[i]? = some x → w.cell? ⟨b, off + i, none⟩ = some (.string (S x))) (k : Nat) : Lies w (some ⟨b, off, none⟩) (xs.take k) :=
  .inr ⟨b, off, rfl, hb, fun i x hx => h i x (by
    rw [List.getElem?_take] at hx
    split at hx
    · exact hx
    · cases hx)⟩

theorem Lies.drop {w : World} {b off : Nat} {xs : List Str} (hb : b < w.heap.size) (h : ∀ i x, xs[i]? = some x → w.cell? ⟨b, off + i, none⟩ = some (.string (S x))) (k : Nat) : Lies w (some ⟨b, off + k, none⟩) (xs.drop k) :=
  .inr ⟨b, off + k, rfl, hb, fun i x hx => by
    rw [Nat.add_assoc]
    exact h _ x (by rwa [List.getElem?_drop] at hx)⟩

theorem Lies.new (w : World) (s : Str) (t : TypeId) : Lies (w.alloc (.cells #[.string (S s)] t)) (some ⟨w.heap.size, 0, none⟩) [s] :=
  .inr ⟨_, _, rfl, by simp, fun i x hx => by
    match i, hx with
    | 0, hx =>
      simp at hx
      subst hx
      simp⟩

set_option maxHeartbeats 1000000 in
theorem put_any (A : Option Addr) (c : Nat) (xs : List Str) (s : Str) (w : World) (hl : Lies w A xs) (hn : xs.length ≤ 900000) (hc : xs.length ≤ c) (hcm : c ≤ maxLen) :
    Calls Try.prog 14 #[.slice A xs.length c, .string (S s)] w (RetL w (putL s xs)) := by
  unfold maxLen at hcm
  go_enter Try.func14, Try.ntmps14
  go_wp2
  go_loop [5] (fun i => ∃ k : Nat, k ≤ xs.length ∧ i = .int .i64 k ∧ Hid (∀ x ∈ xs.take k, x < s)) (fun i => xs.length - (intOf i).toNat)
  case atStart => exact ⟨0, Nat.zero_le _, rfl, by simp [Hid]⟩
  case round =>
    obtain ⟨k, hk, rfl, h0⟩ := hrel
    by_cases hlt : k < xs.length
    · obtain ⟨b, off, rfl, hb, hcl⟩ := hl.get hlt
      obtain ⟨x, hx⟩ : ∃ x, xs[k]? = some x := ⟨_, List.getElem?_eq_getElem hlt⟩
      have hcell := hcl k x hx
      have HX := Lib.hid hx
      have HC := Lib.hid hcl
      have HL := Lib.hid hl
      clear hx hcl hl
      rcases str_tri x s with hxs | hxs | hxs
      · have hb1 := bl_true hxs
        have hb2 := beq_str (ne_of_slt hxs)
        have HN := Lib.hid hxs
        clear hxs
        go_wp2
        go_round
        case rel => exact ⟨k + 1, by omega, by go_num, lt_snoc h0.out HX.out HN.out⟩
        case measure => simp [intOf]; omega
      · subst hxs
        go_wp2
        go_ret
        have e := putL_hit h0.out HX.out
        unfold RetL
        rw [← e]
        exact ⟨_, c, rfl, hc, hcm, HL.out, Below.refl _ _⟩
      · have hb1 := bl_false (str_asymm hxs)
        have hb2 := beq_str (ne_of_slt hxs).symm
        have HN := Lib.hid hxs
        clear hxs
        go_wp2
        have hkc : k ≤ c := by omega
        have hkc' : ¬ c = k := by omega
        go_region_law (first
          | (refine step_app _ rfl (.const (.slice none 0 0)) (.tmp 27) _ rfl w.heap.size Try.underlying22 (.slice none 0 0) [] ?qs (Own.nil _ _) (some ⟨b, off, none⟩) k c (xs.take k) ?qm ?qx ?ql ?qn ?qb ?_
             case qs => go_simp
             case qm => simp; omega
             case qx => go_simp
             case ql => first | exact Lies.take hb HC.out k | exact (Lies.take hb HC.out k).alloc _
             case qn => simp; omega
             case qb => simp
             intro v1 w1 hown1 hg1 hat1
             have hbw1 : Below w.heap.size w w1 := by
               first
                 | exact (Below.refl _ w).drew.grown hg1 (Nat.le_refl _) (by simp [Value.ownBlock])
                 | exact ((Below.refl _ w).alloc (Nat.le_refl _) _).drew.grown hg1 (by simp) (by simp [Value.ownBlock])
             have hnew := hg1)
          | (refine step_app _ rfl (.tmp 28) (.tmp 30) _ rfl w.heap.size Try.underlying22 v1 ([] ++ xs.take k) ?qs (hown1.alloc _) (some ⟨w1.heap.size, 0, none⟩) 1 1 [s] rfl ?qx (Lies.new _ _ _) ?qn ?qb ?_
             case qs => go_simp
             case qx => go_simp
             case qn => simp; omega
             case qb => (have := hbw1.size; simp; omega)
             intro v2 w2 hown2 hg2 hat2
             have hbw2 : Below w.heap.size w w2 := (hbw1.alloc hbw1.size _).grown hg2 (by have := hbw1.size; simp; omega) (fun k hk => (hown1.lt hk).1))
          | (refine step_app _ rfl (.tmp 28) (.tmp 30) _ rfl w.heap.size Try.underlying22 v1 ([] ++ xs.take k) ?qs hown1 (some ⟨w.heap.size, 0, none⟩) 1 1 [s] rfl ?qx ?ql ?qn hbw1.size ?_
             case qs => go_simp
             case qx => go_simp
             case ql => exact Lies.grown (w := (w.alloc (.cells #[.string (S s)] 9)).drew) (Lies.new w s _) hnew (by simp [Value.ownBlock])
             case qn => simp; omega
             intro v2 w2 hown2 hg2 hat2
             have hbw2 : Below w.heap.size w w2 := hbw1.grown hg2 hbw1.size (fun k hk => (hown1.lt hk).1))
          | (refine step_app _ rfl (.tmp 31) (.tmp 34) _ rfl w.heap.size Try.underlying22 v2 (([] ++ xs.take k) ++ [s]) ?qs hown2 (some ⟨b, off + k, none⟩) (xs.length - k) (c - k) (xs.drop k) ?qm ?qx ?ql ?qn hbw2.size ?_
             case qs => go_simp
             case qm => simp
             case qx => go_simp
             case ql => exact (Lies.drop hb HC.out k).below hbw2
             case qn => simp; omega
             intro v3 w3 hown3 hg3 hat3
             have hbw3 : Below w.heap.size w w3 := hbw2.grown hg3 hbw2.size (fun k hk => (hown2.lt hk).1)))
        all_goals
          go_wp2
          go_ret
          exact retL_of_own hown3 (by rw [← putL_mid h0.out HX.out HN.out]; simp) hbw3
    · have h1 : ∀ x ∈ xs, x < s := by
        have := h0.out
        rwa [List.take_of_length_le (by omega)] at this
      have H1 := Lib.hid h1
      have HL := Lib.hid hl
      clear h1 hl
      go_wp2_with (first
        | (at_builtin
           refine wpList_app _ rfl (.const (.slice none 0 0)) (.tmp 36) _ rfl w.heap.size Try.underlying22 (.slice none 0 0) [] rfl (Own.nil _ _) A xs.length c xs rfl rfl HL.out ?qn ?qb ?_
           case qn => simp; omega
           case qb => simp
           intro v1 w1 hown1 hg1 hat1
           have hbw1 : Below w.heap.size w w1 := (Below.refl _ w).grown hg1 (Nat.le_refl _) (by simp [Value.ownBlock]))
        | (at_builtin
           refine wpList_app _ rfl (.tmp 37) (.tmp 39) _ rfl w.heap.size Try.underlying22 v1 ([] ++ xs) rfl (hown1.alloc _) (some ⟨w1.heap.size, 0, none⟩) 1 1 [s] rfl rfl (Lies.new _ _ _) ?qn ?qb ?_
           case qn => simp; omega
           case qb => (have := hbw1.size; simp; omega)
           intro v2 w2 hown2 hg2 hat2
           have hbw2 : Below w.heap.size w w2 := (hbw1.alloc hbw1.size _).grown hg2 (by have := hbw1.size; simp; omega) (fun k hk => (hown1.lt hk).1)))
      go_ret
      exact retL_of_own hown2 (by rw [← putL_end H1.out]; simp) hbw2
end Go.Proofs.Ytmemagokddfohaa
