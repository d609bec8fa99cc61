/- Rows that rise are known by what is in them: plain mathematics. No condition. -/
import Derived.Test.YtmemagokddfohaaRef1e
import Derived.Lib.SlicesCompact
namespace Go.Proofs.Ytmemagokddfohaa

theorem srt_ext : ∀ {xs ys : List Str}, Srt xs → Srt ys → (∀ x, x ∈ xs ↔ x ∈ ys) → xs = ys
  | [], [], _, _, _ => rfl
  | [], y :: ys, _, _, h => absurd ((h y).2 (by simp)) (by simp)
  | x :: xs, [], _, _, h => absurd ((h x).1 (by simp)) (by simp)
  | x :: xs, y :: ys, hx, hy, h => by
    obtain ⟨hx1, hx2⟩ := List.pairwise_cons.1 hx
    obtain ⟨hy1, hy2⟩ := List.pairwise_cons.1 hy
    have e : x = y := by
      rcases List.mem_cons.1 ((h x).1 (by simp)) with h1 | h1
      · exact h1
      · rcases List.mem_cons.1 ((h y).2 (by simp)) with h2 | h2
        · exact h2.symm
        · exact absurd (str_trans (hx1 y h2) (hy1 x h1)) (str_irrefl x)
    subst e
    refine congrArg _ (srt_ext hx2 hy2 fun z => ⟨fun hz => ?_, fun hz => ?_⟩)
    · rcases List.mem_cons.1 ((h z).1 (by simp [hz])) with h1 | h1
      · subst h1; exact absurd (hx1 z hz) (str_irrefl z)
      · exact h1
    · rcases List.mem_cons.1 ((h z).2 (by simp [hz])) with h1 | h1
      · subst h1; exact absurd (hy1 z hz) (str_irrefl z)
      · exact h1

theorem mem_putL {s x : Str} : ∀ {xs : List Str}, x ∈ putL s xs ↔ x = s ∨ x ∈ xs
  | [] => by simp [putL]
  | y :: r => by
    unfold putL
    split
    · rename_i h; subst h; simp
    · split
      · simp
      · rw [List.mem_cons, mem_putL (xs := r), List.mem_cons]
        constructor
        · rintro (h | h | h)
          · exact .inr (.inl h)
          · exact .inl h
          · exact .inr (.inr h)
        · rintro (h | h | h)
          · exact .inr (.inl h)
          · exact .inl h
          · exact .inr (.inr h)

theorem srt_putL {s : Str} : ∀ {xs : List Str}, Srt xs → Srt (putL s xs)
  | [], _ => by simp [putL]
  | y :: r, h => by
    obtain ⟨h1, h2⟩ := List.pairwise_cons.1 h
    unfold putL
    split
    · exact h
    · rename_i hne
      split
      · rename_i hlt
        refine List.pairwise_cons.2 ⟨fun z hz => ?_, h⟩
        rcases List.mem_cons.1 hz with e | e
        · rw [e]; exact hlt
        · exact str_trans hlt (h1 z e)
      · rename_i hge
        refine List.pairwise_cons.2 ⟨fun z hz => ?_, srt_putL h2⟩
        rcases mem_putL.1 hz with e | e
        · rw [e]
          rcases str_tri y s with k | k | k
          · exact k
          · exact absurd k hne
          · exact absurd k hge
        · exact h1 z e

theorem mem_bothL {x : Str} : ∀ {b a : List Str}, x ∈ bothL a b ↔ x ∈ a ∨ x ∈ b
  | [], a => by simp [bothL]
  | y :: r, a => by
    have := mem_bothL (x := x) (b := r) (a := putL y a)
    unfold bothL at this ⊢
    rw [List.foldl_cons, this, mem_putL, List.mem_cons]
    constructor
    · rintro ((h | h) | h)
      · exact .inr (.inl h)
      · exact .inl h
      · exact .inr (.inr h)
    · rintro (h | h | h)
      · exact .inl (.inr h)
      · exact .inl (.inl h)
      · exact .inr h

theorem srt_bothL : ∀ {b a : List Str}, Srt a → Srt (bothL a b)
  | [], _, h => by simpa [bothL] using h
  | y :: r, a, h => by
    have := srt_bothL (b := r) (srt_putL (s := y) h)
    unfold bothL at this ⊢
    rwa [List.foldl_cons]

theorem srt_sortL (xs : List Str) : Srt (sortL xs) := srt_bothL List.Pairwise.nil
theorem mem_sortL {x : Str} {xs : List Str} : x ∈ sortL xs ↔ x ∈ xs := by unfold sortL; rw [mem_bothL]; simp
theorem sortL_len (xs : List Str) : (sortL xs).length ≤ xs.length := by have := bothL_len [] xs; simpa [sortL] using this

theorem mem_lessL {s x : Str} {xs : List Str} : x ∈ lessL s xs ↔ x ∈ xs ∧ x ≠ s := by simp [lessL]
theorem srt_lessL {s : Str} {xs : List Str} (h : Srt xs) : Srt (lessL s xs) := List.Pairwise.filter _ h

theorem le_iff {a b : Str} : a ≤ b ↔ ¬ b < a := List.not_lt.symm
theorem lt_of_le_ne {a b : Str} (h : a ≤ b) (hne : a ≠ b) : a < b := by
  rcases str_tri a b with k | k | k
  · exact k
  · exact absurd k hne
  · exact absurd k (le_iff.1 h)

/-- What compact leaves of a list that doesn't fall: a row that rises, with just those in it. -/
theorem compact_up (zs : List Str) (hz : zs.Pairwise (· ≤ ·)) : ∀ m, m ≤ zs.length → Srt (Lib.compactUpTo zs.toArray m) ∧ ∀ x, x ∈ Lib.compactUpTo zs.toArray m ↔ x ∈ zs.take m
  | 0, _ => by simp [Lib.compactUpTo]
  | m + 1, hm => by
    obtain ⟨h1, h2⟩ := compact_up zs hz m (by omega)
    have hget : zs.toArray[m]! = zs[m] := by simp [getElem!_pos, show m < zs.length by omega]
    have hle : ∀ i j (hij : i < j) (hj : j < zs.length), zs[i] ≤ zs[j] := fun i j hij hj => List.pairwise_iff_getElem.1 hz i j (by omega) hj hij
    rw [Lib.compactUpTo_succ, List.take_succ_eq_append_getElem (show m < zs.length by omega)]
    by_cases hk : Lib.keeps zs.toArray m = true
    · rw [if_pos hk, hget]
      refine ⟨List.pairwise_append.2 ⟨h1, List.pairwise_singleton _ _, ?_⟩, fun x => by rw [List.mem_append, List.mem_append, h2]⟩
      intro a ha b hb
      rw [List.mem_singleton.1 hb]
      rw [h2] at ha
      obtain ⟨i, hi, rfl⟩ := List.mem_iff_getElem.1 ha
      simp only [List.getElem_take]
      have him : i < m := by simp at hi; omega
      refine lt_of_le_ne (hle i m him (by omega)) fun e => ?_
      have hm1 : zs.toArray[m - 1]! = zs[m - 1] := by simp [getElem!_pos, show m - 1 < zs.length by omega]
      simp only [Lib.keeps, decide_eq_true_eq, hget, hm1] at hk
      rcases hk with hk | hk
      · omega
      · refine hk ?_
        have a1 : zs[m - 1] ≤ zs[m] := hle (m - 1) m (by omega) (by omega)
        rcases Nat.lt_or_ge i (m - 1) with hlt | hge
        · have a2 : zs[i] ≤ zs[m - 1] := hle i (m - 1) hlt (by omega)
          rw [e] at a2
          exact List.le_antisymm a2 a1
        · have : i = m - 1 := by omega
          subst this
          exact e.symm
    · rw [if_neg hk, List.append_nil]
      refine ⟨h1, fun x => ?_⟩
      rw [h2, List.mem_append, List.mem_singleton]
      refine ⟨fun h => .inl h, fun h => ?_⟩
      rcases h with h | h
      · exact h
      · have hm1 : zs.toArray[m - 1]! = zs[m - 1] := by simp [getElem!_pos, show m - 1 < zs.length by omega]
        simp only [Lib.keeps, decide_eq_true_eq, hget, hm1, not_or, ne_eq, Decidable.not_not] at hk
        rw [h, hk.2]
        exact List.mem_iff_getElem.2 ⟨m - 1, by simp; omega, by simp⟩

theorem le_total_str (a b : Str) : (decide (a ≤ b) || decide (b ≤ a)) = true := by
  rcases str_tri a b with h | h | h
  · simp [le_iff.2 (str_asymm h)]
  · subst h; simp
  · simp [le_iff.2 (str_asymm h)]

theorem le_trans_str (a b c : Str) (h1 : decide (a ≤ b) = true) (h2 : decide (b ≤ c) = true) : decide (a ≤ c) = true := by
  simp only [decide_eq_true_eq] at *
  exact List.le_trans h1 h2

theorem sorted_eq (xs : List Str) : Lib.compact (xs.mergeSort fun x y => decide (x ≤ y)) = sortL xs := by
  have hs : (xs.mergeSort fun x y => decide (x ≤ y)).Pairwise (· ≤ ·) := by
    have := List.pairwise_mergeSort (le := fun x y : Str => decide (x ≤ y)) le_trans_str le_total_str xs
    simpa using this
  obtain ⟨h1, h2⟩ := compact_up _ hs _ (Nat.le_refl _)
  refine srt_ext h1 (srt_sortL xs) fun x => ?_
  rw [mem_sortL]
  have := h2 x
  rw [List.take_length, List.mem_mergeSort] at this
  exact this
end Go.Proofs.Ytmemagokddfohaa
