/- The order of strings, rows that rise: plain mathematics. No condition. -/
import Derived.Sort.Walk0
import Derived.Test.YtmemagokddfohaaWords
namespace Go.Proofs.Ytmemagokddfohaa

theorem str_irrefl (a : Str) : ¬ a < a := List.lt_irrefl a
theorem str_trans {a b c : Str} (h : a < b) (k : b < c) : a < c := List.lt_trans h k
theorem str_asymm {a b : Str} (h : a < b) : ¬ b < a := fun k => str_irrefl a (str_trans h k)
theorem ne_of_slt {a b : Str} (h : a < b) : a ≠ b := by rintro rfl; exact str_irrefl _ h
theorem str_tri (a b : Str) : a < b ∨ a = b ∨ b < a := by
  by_cases h1 : a < b
  · exact .inl h1
  · by_cases h2 : b < a
    · exact .inr (.inr h2)
    · exact .inr (.inl (List.le_antisymm (List.not_lt.1 h2) (List.not_lt.1 h1)))

theorem bl_true {a b : Str} (h : a < b) : Op.bytesLess a b = true := by rw [bytesLess_eq]; simpa using h
theorem bl_false {a b : Str} (h : ¬ a < b) : Op.bytesLess a b = false := by rw [bytesLess_eq]; simpa using h

/-- A row that rises. -/
abbrev Srt (xs : List Str) : Prop := xs.Pairwise (· < ·)

theorem srt_snoc {xs : List Str} {j : Nat} {x y : Str} (h : Srt (xs.take (j + 1))) (hx : xs[j]? = some x) (hy : xs[j + 1]? = some y) (hlt : x < y) : Srt (xs.take (j + 1 + 1)) := by
  obtain ⟨hk, he⟩ := List.getElem?_eq_some_iff.1 hy
  obtain ⟨hk0, he0⟩ := List.getElem?_eq_some_iff.1 hx
  rw [List.take_succ_eq_append_getElem hk, he]
  refine List.pairwise_append.2 ⟨h, List.pairwise_singleton _ _, ?_⟩
  intro a ha b hb
  rw [List.mem_singleton] at hb
  subst hb
  rw [List.take_succ_eq_append_getElem hk0, he0] at h ha
  rcases List.mem_append.1 ha with h1 | h1
  · exact str_trans ((List.pairwise_append.1 h).2.2 a h1 x (List.mem_singleton.2 rfl)) hlt
  · rw [List.mem_singleton] at h1
    subst h1
    exact hlt

theorem srt_no {xs : List Str} {j : Nat} {x y : Str} (hx : xs[j]? = some x) (hy : xs[j + 1]? = some y) (hlt : ¬ x < y) : ¬ Srt xs := by
  intro h
  obtain ⟨hk, he⟩ := List.getElem?_eq_some_iff.1 hy
  obtain ⟨hk0, he0⟩ := List.getElem?_eq_some_iff.1 hx
  have := List.pairwise_iff_getElem.1 h j (j + 1) hk0 hk (by omega)
  rw [he, he0] at this
  exact hlt this

theorem srt_take_one (xs : List Str) : Srt (xs.take 1) := by
  cases xs <;> simp [Srt]

theorem srt_all {xs : List Str} {k : Nat} (h : Srt (xs.take k)) (hk : xs.length ≤ k) : Srt xs := by rwa [List.take_of_length_le hk] at h
end Go.Proofs.Ytmemagokddfohaa
