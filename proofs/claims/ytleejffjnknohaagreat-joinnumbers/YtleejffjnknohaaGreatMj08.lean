/- Rows that rise are known by what is in them: plain mathematics. No condition. Two rows gone through together: plain mathematics. No condition. What the reference's with does. No condition but that the ticks lie in memory, at most 1000, and that the number is not 0. What the reference's Up and JoinClocks do. No condition but that the ticks lie in memory, at most 100, and that no number is 0. What cmp.Compare, clock.byWho, clock.wrong, clock.later, clock.rises do. No condition but that the ticks lie in memory. Values joined: plain mathematics. No condition. -/
import Derived.Test.YtleejffjnknohaaGreatMj07
import Derived.Lib.SlicesCompact
import Derived.Test.YtleejffjnknohaaGreatMj03
import Derived.Test.YtleejffjnknohaaGreatMj01
import Derived.StillTailTactics
namespace Go.Proofs.YtleejffjnknohaaGreat.R1

theorem srt_ext : ∀ {xs ys : List Str}, Srt xs → Srt ys → (∀ x, x ∈ xs ↔ x ∈ ys) → xs = ys
  | [], [], _, _, _ => rfl
  | [], y :: ys, _, _, h => absurd ((h y).2 (by simp)) (by simp)
  | x :: xs, [], _, _, h => absurd ((h x).1 (by simp)) (by simp)
  | x :: xs, y :: ys, hx, hy, h => by
    obtain ⟨hx1, hx2⟩ := List.pairwise_cons.1 hx
    obtain ⟨hy1, hy2⟩ := List.pairwise_cons.1 hy
    have e : x = y := by
      rcases List.mem_cons.1 ((h x).1 (by simp)) with h1 | h1
      · exact h1
      · rcases List.mem_cons.1 ((h y).2 (by simp)) with h2 | h2
        · exact h2.symm
        · exact absurd (str_trans (hx1 y h2) (hy1 x h1)) (str_irrefl x)
    subst e
    refine congrArg _ (srt_ext hx2 hy2 fun z => ⟨fun hz => ?_, fun hz => ?_⟩)
    · rcases List.mem_cons.1 ((h z).1 (by simp [hz])) with h1 | h1
      · subst h1; exact absurd (hx1 z hz) (str_irrefl z)
      · exact h1
    · rcases List.mem_cons.1 ((h z).2 (by simp [hz])) with h1 | h1
      · subst h1; exact absurd (hy1 z hz) (str_irrefl z)
      · exact h1

theorem mem_putL {s x : Str} : ∀ {xs : List Str}, x ∈ putL s xs ↔ x = s ∨ x ∈ xs
  | [] => by simp [putL]
  | y :: r => by
    unfold putL
    split
    · rename_i h; subst h; simp
    · split
      · simp
      · rw [List.mem_cons, mem_putL (xs := r), List.mem_cons]
        constructor
        · rintro (h | h | h)
          · exact .inr (.inl h)
          · exact .inl h
          · exact .inr (.inr h)
        · rintro (h | h | h)
          · exact .inr (.inl h)
          · exact .inl h
          · exact .inr (.inr h)

theorem srt_putL {s : Str} : ∀ {xs : List Str}, Srt xs → Srt (putL s xs)
  | [], _ => by simp [putL]
  | y :: r, h => by
    obtain ⟨h1, h2⟩ := List.pairwise_cons.1 h
    unfold putL
    split
    · exact h
    · rename_i hne
      split
      · rename_i hlt
        refine List.pairwise_cons.2 ⟨fun z hz => ?_, h⟩
        rcases List.mem_cons.1 hz with e | e
        · rw [e]; exact hlt
        · exact str_trans hlt (h1 z e)
      · rename_i hge
        refine List.pairwise_cons.2 ⟨fun z hz => ?_, srt_putL h2⟩
        rcases mem_putL.1 hz with e | e
        · rw [e]
          rcases str_tri y s with k | k | k
          · exact k
          · exact absurd k hne
          · exact absurd k hge
        · exact h1 z e

theorem mem_bothL {x : Str} : ∀ {b a : List Str}, x ∈ bothL a b ↔ x ∈ a ∨ x ∈ b
  | [], a => by simp [bothL]
  | y :: r, a => by
    have := mem_bothL (x := x) (b := r) (a := putL y a)
    unfold bothL at this ⊢
    rw [List.foldl_cons, this, mem_putL, List.mem_cons]
    constructor
    · rintro ((h | h) | h)
      · exact .inr (.inl h)
      · exact .inl h
      · exact .inr (.inr h)
    · rintro (h | h | h)
      · exact .inl (.inr h)
      · exact .inl (.inl h)
      · exact .inr h

theorem srt_bothL : ∀ {b a : List Str}, Srt a → Srt (bothL a b)
  | [], _, h => by simpa [bothL] using h
  | y :: r, a, h => by
    have := srt_bothL (b := r) (srt_putL (s := y) h)
    unfold bothL at this ⊢
    rwa [List.foldl_cons]

theorem srt_sortL (xs : List Str) : Srt (sortL xs) := srt_bothL List.Pairwise.nil
theorem mem_sortL {x : Str} {xs : List Str} : x ∈ sortL xs ↔ x ∈ xs := by unfold sortL; rw [mem_bothL]; simp
theorem sortL_len (xs : List Str) : (sortL xs).length ≤ xs.length := by have := bothL_len [] xs; simpa [sortL] using this

theorem mem_lessL {s x : Str} {xs : List Str} : x ∈ lessL s xs ↔ x ∈ xs ∧ x ≠ s := by simp [lessL]
theorem srt_lessL {s : Str} {xs : List Str} (h : Srt xs) : Srt (lessL s xs) := List.Pairwise.filter _ h

theorem le_iff {a b : Str} : a ≤ b ↔ ¬ b < a := List.not_lt.symm
theorem lt_of_le_ne {a b : Str} (h : a ≤ b) (hne : a ≠ b) : a < b := by
  rcases str_tri a b with k | k | k
  · exact k
  · exact absurd k hne
  · exact absurd k (le_iff.1 h)

/-- What compact leaves of a list that doesn't fall: a row that rises, with just those in it. -/
theorem compact_up (zs : List Str) (hz : zs.Pairwise (· ≤ ·)) : ∀ m, m ≤ zs.length → Srt (Lib.compactUpTo zs.toArray m) ∧ ∀ x, x ∈ Lib.compactUpTo zs.toArray m ↔ x ∈ zs.take m
  | 0, _ => by simp [Lib.compactUpTo]
  | m + 1, hm => by
    obtain ⟨h1, h2⟩ := compact_up zs hz m (by omega)
    have hget : zs.toArray[m]! = zs[m] := by simp [getElem!_pos, show m < zs.length by omega]
    have hle : ∀ i j (hij : i < j) (hj : j < zs.length), zs[i] ≤ zs[j] := fun i j hij hj => List.pairwise_iff_getElem.1 hz i j (by omega) hj hij
    rw [Lib.compactUpTo_succ, List.take_succ_eq_append_getElem (show m < zs.length by omega)]
    by_cases hk : Lib.keeps zs.toArray m = true
    · rw [if_pos hk, hget]
      refine ⟨List.pairwise_append.2 ⟨h1, List.pairwise_singleton _ _, ?_⟩, fun x => by rw [List.mem_append, List.mem_append, h2]⟩
      intro a ha b hb
      rw [List.mem_singleton.1 hb]
      rw [h2] at ha
      obtain ⟨i, hi, rfl⟩ := List.mem_iff_getElem.1 ha
      simp only [List.getElem_take]
      have him : i < m := by simp at hi; omega
      refine lt_of_le_ne (hle i m him (by omega)) fun e => ?_
      have hm1 : zs.toArray[m - 1]! = zs[m - 1] := by simp [getElem!_pos, show m - 1 < zs.length by omega]
      simp only [Lib.keeps, decide_eq_true_eq, hget, hm1] at hk
      rcases hk with hk | hk
      · omega
      · refine hk ?_
        have a1 : zs[m - 1] ≤ zs[m] := hle (m - 1) m (by omega) (by omega)
        rcases Nat.lt_or_ge i (m - 1) with hlt | hge
        · have a2 : zs[i] ≤ zs[m - 1] := hle i (m - 1) hlt (by omega)
          rw [e] at a2
          exact List.le_antisymm a2 a1
        · have : i = m - 1 := by omega
          subst this
          exact e.symm
    · rw [if_neg hk, List.append_nil]
      refine ⟨h1, fun x => ?_⟩
      rw [h2, List.mem_append, List.mem_singleton]
      refine ⟨fun h => .inl h, fun h => ?_⟩
      rcases h with h | h
      · exact h
      · have hm1 : zs.toArray[m - 1]! = zs[m - 1] := by simp [getElem!_pos, show m - 1 < zs.length by omega]
        simp only [Lib.keeps, decide_eq_true_eq, hget, hm1, not_or, ne_eq, Decidable.not_not] at hk
        rw [h, hk.2]
        exact List.mem_iff_getElem.2 ⟨m - 1, by simp; omega, by simp⟩

theorem le_total_str (a b : Str) : (decide (a ≤ b) || decide (b ≤ a)) = true := by
  rcases str_tri a b with h | h | h
  · simp [le_iff.2 (str_asymm h)]
  · subst h; simp
  · simp [le_iff.2 (str_asymm h)]

theorem le_trans_str (a b c : Str) (h1 : decide (a ≤ b) = true) (h2 : decide (b ≤ c) = true) : decide (a ≤ c) = true := by
  simp only [decide_eq_true_eq] at *
  exact List.le_trans h1 h2

theorem sorted_eq (xs : List Str) : Lib.compact (xs.mergeSort fun x y => decide (x ≤ y)) = sortL xs := by
  have hs : (xs.mergeSort fun x y => decide (x ≤ y)).Pairwise (· ≤ ·) := by
    have := List.pairwise_mergeSort (le := fun x y : Str => decide (x ≤ y)) le_trans_str le_total_str xs
    simpa using this
  obtain ⟨h1, h2⟩ := compact_up _ hs _ (Nat.le_refl _)
  refine srt_ext h1 (srt_sortL xs) fun x => ?_
  rw [mem_sortL]
  have := h2 x
  rw [List.take_length, List.mem_mergeSort] at this
  exact this
end Go.Proofs.YtleejffjnknohaaGreat.R1

namespace Go.Proofs.YtleejffjnknohaaGreat.R1

/-- x ahead of the first row, f what is told of the rest of it with whatever second row. -/
def beIn (x : Str) (f : List Str → List (Str × Int)) : List Str → List (Str × Int)
  | [] => (x, 0) :: f []
  | y :: yr => if x < y then (x, 0) :: f (y :: yr) else if y < x then (y, 1) :: beIn x f yr else (x, 2) :: f yr

/-- Two rows together: each string once, with its side: 0 the first row's alone, 1 the second one's alone, 2 of both. -/
def be : List Str → List Str → List (Str × Int)
  | [] => fun ys => ys.map fun y => (y, 1)
  | x :: xr => beIn x (be xr)

theorem be_nil : be [] [] = [] := rfl
theorem be_right (y : Str) (yr : List Str) : be [] (y :: yr) = (y, 1) :: be [] yr := rfl
theorem be_left (x : Str) (xr : List Str) : be (x :: xr) [] = (x, 0) :: be xr [] := rfl
theorem be_lt {x y : Str} (xr yr : List Str) (h : x < y) : be (x :: xr) (y :: yr) = (x, 0) :: be xr (y :: yr) := by
  show beIn x (be xr) (y :: yr) = _
  rw [beIn, if_pos h]
theorem be_gt {x y : Str} (xr yr : List Str) (h : y < x) : be (x :: xr) (y :: yr) = (y, 1) :: be (x :: xr) yr := by
  show beIn x (be xr) (y :: yr) = (y, 1) :: beIn x (be xr) yr
  rw [beIn, if_neg (str_asymm h), if_pos h]
theorem be_eq (x : Str) (xr yr : List Str) : be (x :: xr) (x :: yr) = (x, 2) :: be xr yr := by
  show beIn x (be xr) (x :: yr) = _
  rw [beIn, if_neg (str_irrefl x), if_neg (str_irrefl x)]

/-- By both rows: a rule to prove what holds of them gone through together. -/
theorem be_rule {C : List Str → List Str → Prop} (h0 : C [] []) (hr : ∀ y yr, C [] yr → C [] (y :: yr)) (hl : ∀ x xr, C xr [] → C (x :: xr) [])
    (hlt : ∀ x xr y yr, x < y → C xr (y :: yr) → C (x :: xr) (y :: yr)) (hgt : ∀ x xr y yr, y < x → C (x :: xr) yr → C (x :: xr) (y :: yr))
    (heq : ∀ x xr yr, C xr yr → C (x :: xr) (x :: yr)) : ∀ xs ys, C xs ys := by
  intro xs
  induction xs with
  | nil =>
    intro ys
    induction ys with
    | nil => exact h0
    | cons y yr ih => exact hr y yr ih
  | cons x xr ih =>
    intro ys
    induction ys with
    | nil => exact hl x xr (ih [])
    | cons y yr ih2 =>
      rcases str_tri x y with h | h | h
      · exact hlt x xr y yr h (ih (y :: yr))
      · subst h; exact heq x xr yr (ih yr)
      · exact hgt x xr y yr h ih2

theorem be_len : ∀ xs ys, (be xs ys).length ≤ xs.length + ys.length := by
  refine be_rule ?_ ?_ ?_ ?_ ?_ ?_
  · simp [be_nil]
  · intro y yr h; rw [be_right]; simp at h ⊢; omega
  · intro x xr h; rw [be_left]; simp at h ⊢; omega
  · intro x xr y yr hlt h; rw [be_lt _ _ hlt]; simp at h ⊢; omega
  · intro x xr y yr hlt h; rw [be_gt _ _ hlt]; simp at h ⊢; omega
  · intro x xr yr h; rw [be_eq]; simp at h ⊢; omega

/-- Each string of both rows is there, and no other one. -/
theorem mem_be (z : Str) : ∀ xs ys, z ∈ (be xs ys).map (·.1) ↔ z ∈ xs ∨ z ∈ ys := by
  refine be_rule ?_ ?_ ?_ ?_ ?_ ?_
  · simp [be_nil]
  · intro y yr h; rw [be_right, List.map_cons, List.mem_cons, h, List.mem_cons]; simp
  · intro x xr h; rw [be_left, List.map_cons, List.mem_cons, h, List.mem_cons]; simp
  · intro x xr y yr hlt h
    rw [be_lt _ _ hlt, List.map_cons, List.mem_cons, h, List.mem_cons (l := xr), or_assoc]
  · intro x xr y yr hlt h
    rw [be_gt _ _ hlt, List.map_cons, List.mem_cons, h, List.mem_cons (l := yr)]
    exact ⟨fun k => k.elim (fun k => .inr (.inl k)) (fun k => k.elim .inl (fun k => .inr (.inr k))), fun k => k.elim (fun k => .inr (.inl k)) (fun k => k.elim .inl (fun k => .inr (.inr k)))⟩
  · intro x xr yr h
    rw [be_eq, List.map_cons, List.mem_cons, h, List.mem_cons, List.mem_cons]
    exact ⟨fun k => k.elim (fun k => .inl (.inl k)) (fun k => k.elim (fun k => .inl (.inr k)) (fun k => .inr (.inr k))), fun k => k.elim (fun k => k.elim .inl (fun k => .inr (.inl k))) (fun k => k.elim .inl (fun k => .inr (.inr k)))⟩

/-- Of rows that rise: they come rising. -/
theorem srt_be : ∀ xs ys, Srt xs → Srt ys → Srt ((be xs ys).map (·.1)) := by
  refine be_rule ?_ ?_ ?_ ?_ ?_ ?_
  · intros; simp [be_nil]
  · intro y yr h h1 h2
    obtain ⟨a, b⟩ := List.pairwise_cons.1 h2
    rw [be_right, List.map_cons]
    refine List.pairwise_cons.2 ⟨fun z hz => ?_, h h1 b⟩
    rcases (mem_be z _ _).1 hz with k | k
    · cases k
    · exact a z k
  · intro x xr h h1 h2
    obtain ⟨a, b⟩ := List.pairwise_cons.1 h1
    rw [be_left, List.map_cons]
    refine List.pairwise_cons.2 ⟨fun z hz => ?_, h b h2⟩
    rcases (mem_be z _ _).1 hz with k | k
    · exact a z k
    · cases k
  · intro x xr y yr hlt h h1 h2
    obtain ⟨a, b⟩ := List.pairwise_cons.1 h1
    obtain ⟨a2, b2⟩ := List.pairwise_cons.1 h2
    rw [be_lt _ _ hlt, List.map_cons]
    refine List.pairwise_cons.2 ⟨fun z hz => ?_, h b h2⟩
    rcases (mem_be z _ _).1 hz with k | k
    · exact a z k
    · rcases List.mem_cons.1 k with e | e
      · rw [e]; exact hlt
      · exact str_trans hlt (a2 z e)
  · intro x xr y yr hlt h h1 h2
    obtain ⟨a, b⟩ := List.pairwise_cons.1 h1
    obtain ⟨a2, b2⟩ := List.pairwise_cons.1 h2
    rw [be_gt _ _ hlt, List.map_cons]
    refine List.pairwise_cons.2 ⟨fun z hz => ?_, h h1 b2⟩
    rcases (mem_be z _ _).1 hz with k | k
    · rcases List.mem_cons.1 k with e | e
      · rw [e]; exact hlt
      · exact str_trans hlt (a z e)
    · exact a2 z k
  · intro x xr yr h h1 h2
    obtain ⟨a, b⟩ := List.pairwise_cons.1 h1
    obtain ⟨a2, b2⟩ := List.pairwise_cons.1 h2
    rw [be_eq, List.map_cons]
    refine List.pairwise_cons.2 ⟨fun z hz => ?_, h b b2⟩
    rcases (mem_be z _ _).1 hz with k | k
    · exact a z k
    · exact a2 z k

theorem be_both {xs ys : List Str} (h1 : Srt xs) (h2 : Srt ys) : (be xs ys).map (·.1) = bothL xs ys :=
  srt_ext (srt_be xs ys h1 h2) (srt_bothL h1) fun z => by rw [mem_be, mem_bothL]

/-- The strings of pairs. -/
def keysL (l : List (Str × Int)) : List Str := l.map (·.1)
theorem keysL_snoc (l : List (Str × Int)) (p : Str × Int) : keysL (l ++ [p]) = keysL l ++ [p.1] := by simp [keysL]
theorem keysL_len (l : List (Str × Int)) : (keysL l).length = l.length := by simp [keysL]

/-- The strings of the first row alone. -/
def onlyL (l : List (Str × Int)) : List Str := (l.filter fun p => decide (p.2 = 0)).map (·.1)

theorem onlyL_cons0 (x : Str) (l : List (Str × Int)) : onlyL ((x, 0) :: l) = x :: onlyL l := by simp [onlyL]
theorem onlyL_cons1 (x : Str) (l : List (Str × Int)) : onlyL ((x, 1) :: l) = onlyL l := by simp [onlyL]
theorem onlyL_cons2 (x : Str) (l : List (Str × Int)) : onlyL ((x, 2) :: l) = onlyL l := by simp [onlyL]
theorem onlyL_snoc (l : List (Str × Int)) (p : Str × Int) : onlyL (l ++ [p]) = onlyL l ++ if p.2 = 0 then [p.1] else [] := by
  unfold onlyL
  rw [List.filter_append, List.map_append]
  by_cases h : p.2 = 0 <;> simp [h]
theorem onlyL_len (l : List (Str × Int)) : (onlyL l).length ≤ l.length := by
  unfold onlyL; rw [List.length_map]; exact List.length_filter_le _ _

theorem only_be : ∀ xs ys, Srt xs → Srt ys → onlyL (be xs ys) = xs.filter fun x => decide (x ∉ ys) := by
  have tail : ∀ {y : Str} {yr zs : List Str}, (∀ z ∈ zs, y < z) → (zs.filter fun z => decide (z ∉ y :: yr)) = zs.filter fun z => decide (z ∉ yr) := by
    intro y yr zs h
    refine List.filter_congr fun z hz => ?_
    have hne : z ≠ y := fun e => str_irrefl y (by have := h z hz; rw [e] at this; exact this)
    simp [hne]
  refine be_rule ?_ ?_ ?_ ?_ ?_ ?_
  · intros; simp [be_nil, onlyL]
  · intro y yr h h1 h2
    rw [be_right, onlyL_cons1, h h1 (List.pairwise_cons.1 h2).2]
    simp
  · intro x xr h h1 h2
    rw [be_left, onlyL_cons0, h (List.pairwise_cons.1 h1).2 h2]
    simp
  · intro x xr y yr hlt h h1 h2
    obtain ⟨a2, b2⟩ := List.pairwise_cons.1 h2
    have hx : x ∉ y :: yr := by
      intro hm
      rcases List.mem_cons.1 hm with e | e
      · rw [e] at hlt; exact str_irrefl y hlt
      · exact str_asymm hlt (a2 x e)
    rw [be_lt _ _ hlt, onlyL_cons0, h (List.pairwise_cons.1 h1).2 h2, List.filter_cons_of_pos (by simpa using hx)]
  · intro x xr y yr hlt h h1 h2
    obtain ⟨a, _⟩ := List.pairwise_cons.1 h1
    rw [be_gt _ _ hlt, onlyL_cons1, h h1 (List.pairwise_cons.1 h2).2, tail]
    intro z hz
    rcases List.mem_cons.1 hz with e | e
    · rw [e]; exact hlt
    · exact str_trans hlt (a z e)
  · intro x xr yr h h1 h2
    obtain ⟨a, b⟩ := List.pairwise_cons.1 h1
    rw [be_eq, onlyL_cons2, h b (List.pairwise_cons.1 h2).2, List.filter_cons_of_neg (by simp), tail a]

theorem only_less {xs : List Str} {s : Str} (h1 : Srt xs) : onlyL (be xs [s]) = lessL s xs := by
  rw [only_be xs [s] h1 (by simp [Srt])]
  unfold lessL
  exact List.filter_congr fun z _ => by simp

theorem only_within {xs ys : List Str} (h1 : Srt xs) (h2 : Srt ys) : onlyL (be xs ys) = [] ↔ Wi xs ys := by
  rw [only_be xs ys h1 h2, List.filter_eq_nil_iff]
  simp
end Go.Proofs.YtleejffjnknohaaGreat.R1

namespace Go.Proofs.YtleejffjnknohaaGreat.C3
open Go.RowKit

theorem drop_at {l : List Tk} {i : Nat} {x : Tk} (hx : l[i]? = some x) : l.drop i = x :: l.drop (i + 1) := by
  obtain ⟨hi, he⟩ := List.getElem?_eq_some_iff.1 hx
  rw [List.drop_eq_getElem_cons hi, he]

/-- What is still to come: with the tick, or, if it is in, without. -/
def restC (d : Bool) (l : List Tk) (q n : Int) : List Tk := if d then l else withC l q n

theorem restC_true {l ys : List Tk} {W : List Tk} {k : Nat} {x : Tk} {q n : Int} (h : W = ys ++ restC true (l.drop k) q n) (hx : l[k]? = some x) : W = (ys ++ [x]) ++ restC true (l.drop (k + 1)) q n := by
  rw [h, drop_at hx]; simp [restC]
theorem restC_lt {l ys : List Tk} {W : List Tk} {k : Nat} {x : Tk} {q n : Int} (h : W = ys ++ restC false (l.drop k) q n) (hx : l[k]? = some x) (hlt : x.k < q) : W = (ys ++ [x]) ++ restC false (l.drop (k + 1)) q n := by
  rw [h, drop_at hx]; simp [restC, withC, hlt]
theorem restC_eq {l ys : List Tk} {W : List Tk} {k : Nat} {x : Tk} {q n : Int} (h : W = ys ++ restC false (l.drop k) q n) (hx : l[k]? = some x) (hlt : x.k = q) : W = (ys ++ [⟨q, max n x.n⟩]) ++ restC true (l.drop (k + 1)) q n := by
  rw [h, drop_at hx]; simp [restC, withC, hlt]
theorem restC_gt {l ys : List Tk} {W : List Tk} {k : Nat} {x : Tk} {q n : Int} (h : W = ys ++ restC false (l.drop k) q n) (hx : l[k]? = some x) (hlt : q < x.k) : W = ((ys ++ [⟨q, n⟩]) ++ [x]) ++ restC true (l.drop (k + 1)) q n := by
  rw [h, drop_at hx, restC, if_neg (by simp), withC, if_neg (by omega), if_neg (by omega)]; simp [restC]

theorem LiesB.new {w : World} {x : Tk} {t : TypeId} : LiesB (w.heap.size + 1) (w.alloc (.cells #[.int .i64 x.k, .int .u64 x.n] t)) (some ⟨w.heap.size, 0, none⟩) [x] :=
  LiesB.one (by omega) (by simp) (by simp)

theorem len1 {ys : List Tk} {x : Tk} (h : ys.length ≤ 100000) : ys.length + [x].length ≤ 1000000 := by simp; omega
theorem len_snoc {ys : List Tk} {x : Tk} {m : Nat} (h : ys.length + 1 ≤ m) : (ys ++ [x]).length ≤ m := by simp; omega

end Go.Proofs.YtleejffjnknohaaGreat.C3

namespace Go.Proofs.YtleejffjnknohaaGreat.C3
open Go.RowKit

theorem joinC_succ {a b ys : List Tk} {k : Nat} {y : Tk} (h : ys = joinC a (b.take k)) (hy : b[k]? = some y) : withC ys y.k y.n = joinC a (b.take (k + 1)) := by
  obtain ⟨hi, he⟩ := List.getElem?_eq_some_iff.1 hy
  rw [List.take_succ_eq_append_getElem hi, he, h]
  unfold joinC
  rw [List.foldl_append]
  rfl
theorem joinC_end {a b ys : List Tk} {k : Nat} (h : ys = joinC a (b.take k)) (hk : b.length ≤ k) : ys = joinC a b := by rwa [List.take_of_length_le hk] at h

end Go.Proofs.YtleejffjnknohaaGreat.C3

namespace Go.Proofs.YtleejffjnknohaaGreat.C3
open Go.RowKit

set_option maxHeartbeats 400000 in
theorem isNaN_any (x : Int) (w : World) : Calls Tryz.prog 138 #[.int .i64 x] w fun e w' => e = .returned (.bool false) ∧ w = w' := by
  go_enter Tryz.func138, Tryz.ntmps138
  go_wp2
  go_ret
  exact ⟨rfl, rfl⟩

def cmpI (x y : Int) : Int := if x < y then -1 else if y < x then 1 else 0
theorem cmpI_lt {x y : Int} (h : x < y) : cmpI x y = -1 := if_pos h
theorem cmpI_gt {x y : Int} (h : y < x) : cmpI x y = 1 := by unfold cmpI; rw [if_neg (by omega), if_pos h]
theorem cmpI_eq (x : Int) : cmpI x x = 0 := by unfold cmpI; rw [if_neg (by omega), if_neg (by omega)]

set_option maxHeartbeats 400000 in
theorem compare_any (x y : Int) (w : World) : Calls Tryz.prog 126 #[.int .i64 x, .int .i64 y] w fun e w' => e = .returned (.int .i64 (cmpI x y)) ∧ w = w' := by
  rcases Int.lt_trichotomy x y with h | h | h
  · rw [cmpI_lt h]
    go_enter Tryz.func126, Tryz.ntmps126
    go_wp2_with (go_at_call 138; refine (isNaN_any _ _).mono ?_; rintro e w' ⟨rfl, rfl⟩)
    go_ret
    exact ⟨rfl, rfl⟩
  · subst h
    rw [cmpI_eq]
    go_enter Tryz.func126, Tryz.ntmps126
    go_wp2_with (go_at_call 138; refine (isNaN_any _ _).mono ?_; rintro e w' ⟨rfl, rfl⟩)
    go_ret
    exact ⟨rfl, rfl⟩
  · rw [cmpI_gt h]
    have h1 : ¬ x < y := by omega
    go_enter Tryz.func126, Tryz.ntmps126
    go_wp2_with (go_at_call 138; refine (isNaN_any _ _).mono ?_; rintro e w' ⟨rfl, rfl⟩)
    go_ret
    exact ⟨rfl, rfl⟩

set_option maxHeartbeats 400000 in
theorem byWho_any (xk xn yk yn : Int) (w : World) : Calls Tryz.prog 100 #[.agg #[.int .i64 xk, .int .u64 xn], .agg #[.int .i64 yk, .int .u64 yn]] w (RetV w (.int .i64 (cmpI xk yk))) := by
  go_enter Tryz.func100, Tryz.ntmps100
  go_wp2_with (go_at_call 126; refine (compare_any _ _ _).mono ?_; rintro e w' ⟨rfl, rfl⟩)
  go_ret
  exact ⟨rfl, belAl (belAl (Below.refl _ _))⟩

set_option maxHeartbeats 400000 in
theorem wrong_any (xk xn : Int) (w : World) : Calls Tryz.prog 134 #[.agg #[.int .i64 xk, .int .u64 xn]] w (RetV w (.bool (bad ⟨xk, xn⟩))) := by
  obtain ⟨p, hp⟩ : ∃ p, bad ⟨xk, xn⟩ = p := ⟨_, rfl⟩
  rw [hp]
  unfold bad at hp
  dsimp only at hp
  by_cases c1 : xk < 0
  · simp [c1] at hp
    subst hp
    go_enter Tryz.func134, Tryz.ntmps134
    go_wp2_with fail
    go_ret
    exact ⟨rfl, allocB _ _⟩
  · have d1 : decide (xk < 0) = false := decide_eq_false c1
    by_cases c2 : 1000000 < xk
    · simp [c2] at hp
      subst hp
      go_enter Tryz.func134, Tryz.ntmps134
      go_wp2_with fail
      go_ret
      exact ⟨rfl, allocB _ _⟩
    · have d2 : decide (1000000 < xk) = false := decide_eq_false c2
      by_cases c3 : xn = 0
      · simp [c3] at hp
        subst hp
        subst c3
        go_enter Tryz.func134, Tryz.ntmps134
        go_wp2_with fail
        go_ret
        exact ⟨rfl, allocB _ _⟩
      · simp [c1, c2, c3] at hp
        subst hp
        have d3 : (xn == 0) = false := by simp [c3]
        go_enter Tryz.func134, Tryz.ntmps134
        go_wp2_with fail
        go_ret
        exact ⟨rfl, allocB _ _⟩

/-- A call that answers the tick t. -/
def RetK (w : World) (t : Tk) (e : Ending) (w' : World) : Prop := e = .returned (.agg #[.int .i64 t.k, .int .u64 t.n]) ∧ Below w.heap.size w w'

set_option maxHeartbeats 400000 in
theorem later_any (xk xn yk yn : Int) (w : World) : Calls Tryz.prog 101 #[.agg #[.int .i64 xk, .int .u64 xn], .agg #[.int .i64 yk, .int .u64 yn]] w (RetK w (laterC ⟨xk, xn⟩ ⟨yk, yn⟩)) := by
  by_cases h : xn < yn
  · have e : laterC ⟨xk, xn⟩ ⟨yk, yn⟩ = ⟨yk, yn⟩ := by unfold laterC; rw [if_pos h]
    rw [e]
    go_enter Tryz.func101, Tryz.ntmps101
    go_wp2_with fail
    refine bodyPost_ret (results_cellT rfl _ _ (w.heap.size + 1 + 1) (.int .i64 yk) (.int .u64 yn) rfl (by go_simp) (by go_simp)) rfl ?_
    exact ⟨rfl, belAl (belAl (belAl (Below.refl _ _)))⟩
  · have e : laterC ⟨xk, xn⟩ ⟨yk, yn⟩ = ⟨xk, xn⟩ := by unfold laterC; rw [if_neg h]
    rw [e]
    go_enter Tryz.func101, Tryz.ntmps101
    go_wp2_with fail
    refine bodyPost_ret (results_cellT rfl _ _ (w.heap.size + 1 + 1) (.int .i64 xk) (.int .u64 xn) rfl (by go_simp) (by go_simp)) rfl ?_
    exact ⟨rfl, belAl (belAl (belAl (Below.refl _ _)))⟩

theorem asc_fall {l : List Tk} {i : Nat} {x y : Tk} (hy : l[i]? = some y) (hx : l[i + 1]? = some x) (hb : x.k ≤ y.k) : decide (Asc l) = false := by
  refine decide_eq_false fun h => ?_
  obtain ⟨h1, e1⟩ := List.getElem?_eq_some_iff.1 hy
  obtain ⟨h2, e2⟩ := List.getElem?_eq_some_iff.1 hx
  have := List.pairwise_iff_getElem.1 h i (i + 1) h1 h2 (by omega)
  rw [e1, e2] at this
  omega
theorem asc_end {l : List Tk} {i : Nat} (h1 : Asc (l.take i)) (hi : l.length ≤ i) : decide (Asc l) = true := by
  rw [List.take_of_length_le hi] at h1
  exact decide_eq_true h1
theorem asc_take1 (l : List Tk) : Asc (l.take 1) := by
  cases l with
  | nil => exact List.Pairwise.nil
  | cons x l => exact List.pairwise_singleton _ _

set_option maxRecDepth 100000 in
set_option maxHeartbeats 400000 in
theorem rises_any (A : Option Addr) (c : Nat) (l : List Tk) (w : World) (h : In w A c l) :
    Calls Tryz.prog 132 #[.slice A l.length c, .func (.func 100) #[] #[]] w (RetV w (.bool (decide (Asc l)))) := by
  obtain ⟨hl, hcap, htop, -⟩ := h
  have hlm : l.length ≤ 9223372036854775807 := by unfold maxLen at htop; omega
  clear hcap htop
  go_enter Tryz.func132, Tryz.ntmps132
  go_wp2_with fail
  go_loopw [5] (fun iv wr => ∃ k : Nat, iv = .int .i64 ((k : Int) + 1) ∧ (k ≤ l.length) ∧ Hid (Asc (l.take (k + 1))) ∧ Below w.heap.size w wr) (fun iv _ => l.length + 1 - (intOf iv).toNat)
  case atStart => exact ⟨0, rfl, Nat.zero_le _, asc_take1 l, Below.refl _ _⟩
  case round =>
    obtain ⟨k, rfl, hk, h1, hbw⟩ := hrel
    by_cases hlt : k + 1 < l.length
    · obtain ⟨b, off, rfl, hb, hc⟩ := (hl.below hbw).get hlt
      obtain ⟨x, hx⟩ : ∃ x, l[k + 1]? = some x := ⟨_, List.getElem?_eq_getElem hlt⟩
      obtain ⟨y, hy⟩ : ∃ y, l[k]? = some y := ⟨_, List.getElem?_eq_getElem (by omega)⟩
      obtain ⟨hc0, hc1⟩ := hc (k + 1) x hx
      obtain ⟨hd0, hd1⟩ := hc k y hy
      have HX := Lib.hid hx
      have HY := Lib.hid hy
      clear hx hy hc hl
      obtain ⟨xk, xn⟩ := x
      obtain ⟨yk, yn⟩ := y
      dsimp only at hc0 hc1 hd0 hd1
      have hki : (k : Int) + 1 < (l.length : Int) := by omega
      have hki0 : (k : Int) < (l.length : Int) := by omega
      have HBW := Lib.hid hbw
      have s1 : IntKind.i64.wrap (k : Int) = (k : Int) := IntWalk.i64_in _ (by omega)
      have s2 : 0 ≤ (k : Int) + 1 := by omega
      have s3 : ((k : Int) + 1).toNat = k + 1 := by omega
      clear hbw
      go_wp2_with fail
      go_still_tail 10, (by kernel_rfl)
      change wpList _ _ _ _ _ wr.drew
      clear s1 s2 s3
      go_wp2_with fail
      refine (byWho_any yk yn xk xn _).mono ?_
      rintro e w4 ⟨rfl, hb4⟩
      have hbw4 : Below w.heap.size w w4 := (HBW.out.drew).trans (hb4.mono HBW.out.size)
      by_cases c4 : yk < xk
      · have HC := Lib.hid c4
        rw [cmpI_lt c4]
        clear c4
        go_wp2_with fail
        go_roundw
        case rel => exact ⟨k + 1, by go_num, by omega, asc_succ h1.out HY.out HX.out HC.out, hbw4⟩
        case measure => simp [intOf]; omega
      · have HC : Hid (xk ≤ yk) := by show xk ≤ yk; omega
        have c5 : 0 ≤ cmpI yk xk := by unfold cmpI; rw [if_neg c4]; split <;> omega
        generalize cmpI yk xk = q at *
        clear c4
        go_wp2_with fail
        go_ret
        exact ⟨ret_bool (asc_fall HY.out HX.out HC.out).symm, hbw4⟩
    · go_wp2_with fail
      go_ret
      exact ⟨ret_bool (asc_end h1.out (by omega)).symm, hbw⟩
end Go.Proofs.YtleejffjnknohaaGreat.C3

namespace Go.Proofs.YtleejffjnknohaaGreat.J5
open C3 (Tk mergeC cmpC cmpI)
open S2 (Tr)
open V4 (Va aheadC)
open R1 (bothL)

/-- The order of texts, as a number. -/
def cmpS (a b : Str) : Int := if a < b then -1 else if b < a then 1 else 0
/-- The order of versions, as a number. -/
def cmpT (a b : List Tk) : Int := if aheadC a b = true then -1 else if aheadC b a = true then 1 else 0

/-- Two rows of values at marks gone through together; z where one has no such mark. -/
def mix {M V : Type} (c : M → M → Int) (z : V) : List (M × V) → List (M × V) → List (M × V × V)
  | [], b => b.map fun p => (p.1, z, p.2)
  | x :: a, [] => (x :: a).map fun p => (p.1, p.2, z)
  | x :: a, y :: b => if c x.1 y.1 < 0 then (x.1, x.2, z) :: mix c z a (y :: b) else if 0 < c x.1 y.1 then (y.1, z, y.2) :: mix c z (x :: a) b else (y.1, x.2, y.2) :: mix c z a b
termination_by a b => a.length + b.length

section
variable {M V : Type} (c : M → M → Int) (z : V)
theorem mix_nil : mix c z [] [] = [] := by rw [mix]; rfl
theorem mix_right (y : M × V) (b : List (M × V)) : mix c z [] (y :: b) = (y.1, z, y.2) :: mix c z [] b := by rw [mix, mix]; rfl
theorem mix_left (x : M × V) (a : List (M × V)) : mix c z (x :: a) [] = (x.1, x.2, z) :: mix c z a [] := by
  rw [mix]
  cases a with
  | nil => rw [mix]; rfl
  | cons y a => rw [mix]; rfl
theorem mix_lt {x y : M × V} (a b : List (M × V)) (h : c x.1 y.1 < 0) : mix c z (x :: a) (y :: b) = (x.1, x.2, z) :: mix c z a (y :: b) := by rw [mix, if_pos h]
theorem mix_gt {x y : M × V} (a b : List (M × V)) (h : 0 < c x.1 y.1) : mix c z (x :: a) (y :: b) = (y.1, z, y.2) :: mix c z (x :: a) b := by rw [mix, if_neg (by omega), if_pos h]
theorem mix_eq {x y : M × V} (a b : List (M × V)) (h : c x.1 y.1 = 0) : mix c z (x :: a) (y :: b) = (y.1, x.2, y.2) :: mix c z a b := by rw [mix, if_neg (by omega), if_neg (by omega)]

theorem mix_len (a b : List (M × V)) : (mix c z a b).length ≤ a.length + b.length := by
  induction a, b using mix.induct (c := c) with
  | case1 b => rw [mix]; simp
  | case2 x a => rw [mix]; simp
  | case3 x a y b h ih => rw [mix_lt c z a b h]; simp only [List.length_cons] at ih ⊢; omega
  | case4 x a y b h h2 ih => rw [mix_gt c z a b h2]; simp only [List.length_cons] at ih ⊢; omega
  | case5 x a y b h h2 ih => rw [mix_eq c z a b (by omega)]; simp only [List.length_cons] at ih ⊢; omega

/-- What they have, each of them of one of the two. -/
theorem mix_mem {p : M × V × V} (a b : List (M × V)) (h : p ∈ mix c z a b) : ((∃ x ∈ a, x.2 = p.2.1) ∨ p.2.1 = z) ∧ ((∃ y ∈ b, y.2 = p.2.2) ∨ p.2.2 = z) ∧ ((∃ x ∈ a, x.1 = p.1) ∨ ∃ y ∈ b, y.1 = p.1) := by
  induction a, b using mix.induct (c := c) with
  | case1 b =>
    rw [mix] at h
    obtain ⟨y, hy, rfl⟩ := List.mem_map.1 h
    exact ⟨.inr rfl, .inl ⟨y, hy, rfl⟩, .inr ⟨y, hy, rfl⟩⟩
  | case2 x a =>
    rw [mix] at h
    obtain ⟨y, hy, rfl⟩ := List.mem_map.1 h
    exact ⟨.inl ⟨y, hy, rfl⟩, .inr rfl, .inl ⟨y, hy, rfl⟩⟩
  | case3 x a y b h1 ih =>
    rw [mix_lt c z a b h1] at h
    rcases List.mem_cons.1 h with rfl | h
    · exact ⟨.inl ⟨x, by simp, rfl⟩, .inr rfl, .inl ⟨x, by simp, rfl⟩⟩
    · obtain ⟨i1, i2, i3⟩ := ih h
      exact ⟨i1.imp (fun ⟨q, hq, e⟩ => ⟨q, by simp [hq], e⟩) id, i2, i3.imp (fun ⟨q, hq, e⟩ => ⟨q, by simp [hq], e⟩) id⟩
  | case4 x a y b h1 h2 ih =>
    rw [mix_gt c z a b h2] at h
    rcases List.mem_cons.1 h with rfl | h
    · exact ⟨.inr rfl, .inl ⟨y, by simp, rfl⟩, .inr ⟨y, by simp, rfl⟩⟩
    · obtain ⟨i1, i2, i3⟩ := ih h
      exact ⟨i1, i2.imp (fun ⟨q, hq, e⟩ => ⟨q, by simp [hq], e⟩) id, i3.imp id (fun ⟨q, hq, e⟩ => ⟨q, by simp [hq], e⟩)⟩
  | case5 x a y b h1 h2 ih =>
    rw [mix_eq c z a b (by omega)] at h
    rcases List.mem_cons.1 h with rfl | h
    · exact ⟨.inl ⟨x, by simp, rfl⟩, .inl ⟨y, by simp, rfl⟩, .inr ⟨y, by simp, rfl⟩⟩
    · obtain ⟨i1, i2, i3⟩ := ih h
      exact ⟨i1.imp (fun ⟨q, hq, e⟩ => ⟨q, by simp [hq], e⟩) id, i2.imp (fun ⟨q, hq, e⟩ => ⟨q, by simp [hq], e⟩) id, i3.imp (fun ⟨q, hq, e⟩ => ⟨q, by simp [hq], e⟩) (fun ⟨q, hq, e⟩ => ⟨q, by simp [hq], e⟩)⟩
end

/-- Told by what stands in them, it is the same. -/
theorem mix_map {M V M' V' : Type} {c : M → M → Int} {c' : M' → M' → Int} {z : V} {z' : V'} (f : M → M') (g : V → V') (hc : ∀ x y, c x y = c' (f x) (f y)) (hz : g z = z') (a b : List (M × V)) :
    (mix c z a b).map (fun p => (f p.1, g p.2.1, g p.2.2)) = mix c' z' (a.map fun p => (f p.1, g p.2)) (b.map fun p => (f p.1, g p.2)) := by
  induction a, b using mix.induct (c := c) with
  | case1 b => rw [mix, List.map_nil, mix]; simp [hz]
  | case2 x a => rw [mix]; simp only [List.map_cons, List.map_nil]; rw [mix]; simp [hz]
  | case3 x a y b h ih => rw [mix_lt c z a b h, List.map_cons, List.map_cons, List.map_cons, mix_lt c' z' _ _ (by rw [← hc]; exact h), ih, hz, List.map_cons]
  | case4 x a y b h h2 ih => rw [mix_gt c z a b h2, List.map_cons, List.map_cons, List.map_cons, mix_gt c' z' _ _ (by rw [← hc]; exact h2), ih, hz, List.map_cons]
  | case5 x a y b h h2 ih =>
    have h0 : c x.1 y.1 = 0 := by omega
    rw [mix_eq c z a b h0, List.map_cons, List.map_cons, List.map_cons, mix_eq c' z' _ _ (by rw [← hc]; exact h0), ih]

/-- What stands at each mark joined, unless one of them is too large. -/
def allE {M V W : Type} (f : V → V → Option W) : List (M × V × V) → Option (List (M × W))
  | [] => some []
  | p :: l => (f p.2.1 p.2.2).bind fun v => (allE f l).map fun r => (p.1, v) :: r
/-- .. and there are not too many. -/
def togE {M V W : Type} (f : V → V → Option W) (l : List (M × V × V)) : Option (List (M × W)) := if 40 < l.length then none else allE f l

theorem allE_snoc {M V W : Type} (f : V → V → Option W) (p : M × V × V) : ∀ l : List (M × V × V), allE f (l ++ [p]) = (allE f l).bind fun r => (f p.2.1 p.2.2).map fun v => r ++ [(p.1, v)]
  | [] => by simp only [List.nil_append, allE, Option.bind_some, Option.map_some]; cases f p.2.1 p.2.2 <;> rfl
  | q :: l => by
    rw [List.cons_append, allE, allE, allE_snoc f p l]
    cases f q.2.1 q.2.2 with
    | none => rfl
    | some v =>
      cases allE f l with
      | none => rfl
      | some r =>
        cases f p.2.1 p.2.2 <;> rfl
theorem allE_append_none {M V W : Type} (f : V → V → Option W) : ∀ (l r : List (M × V × V)), allE f l = none → allE f (l ++ r) = none
  | [], _, h => by simp [allE] at h
  | q :: l, r, h => by
    rw [List.cons_append, allE]
    rw [allE] at h
    cases hf : f q.2.1 q.2.2 with
    | none => rfl
    | some v =>
      rw [hf] at h
      cases ha : allE f l with
      | none => rw [allE_append_none f l r ha]; rfl
      | some x => rw [ha] at h; simp at h
theorem allE_step {M V W : Type} {f : V → V → Option W} {l : List (M × V × V)} {k : Nat} {p : M × V × V} {r : List (M × W)} (hp : l[k]? = some p) (h : allE f (l.take k) = some r) :
    allE f (l.take (k + 1)) = (f p.2.1 p.2.2).map fun v => r ++ [(p.1, v)] := by
  obtain ⟨hk, he⟩ := List.getElem?_eq_some_iff.1 hp
  rw [List.take_succ_eq_append_getElem hk, he, allE_snoc, h]
  rfl
theorem allE_none {M V W : Type} {f : V → V → Option W} {l : List (M × V × V)} {k : Nat} {p : M × V × V} {r : List (M × W)} (hp : l[k]? = some p) (h : allE f (l.take k) = some r) (hn : f p.2.1 p.2.2 = none) : togE f l = none := by
  have h1 : allE f (l.take (k + 1)) = none := by rw [allE_step hp h, hn]; rfl
  have := allE_append_none f _ (l.drop (k + 1)) h1
  rw [List.take_append_drop] at this
  unfold togE
  split
  · rfl
  · exact this
theorem allE_len {M V W : Type} {f : V → V → Option W} : ∀ {l : List (M × V × V)} {r : List (M × W)}, allE f l = some r → r.length = l.length
  | [], r, h => by simp [allE] at h; subst h; rfl
  | q :: l, r, h => by
    rw [allE] at h
    cases hf : f q.2.1 q.2.2 with
    | none => rw [hf] at h; simp at h
    | some v =>
      rw [hf] at h
      cases ha : allE f l with
      | none => rw [ha] at h; simp at h
      | some x => rw [ha] at h; simp at h; subst h; simp [allE_len ha]
theorem allE_map {M V W M' V' W' : Type} (f : M → M') (g : V → V') (h : W → W') {j : V → V → Option W} {j' : V' → V' → Option W'} : ∀ (l : List (M × V × V)), (∀ p ∈ l, j' (g p.2.1) (g p.2.2) = (j p.2.1 p.2.2).map h) →
    allE j' (l.map fun p => (f p.1, g p.2.1, g p.2.2)) = (allE j l).map fun r => r.map fun p => (f p.1, h p.2)
  | [], _ => rfl
  | p :: l, hj => by
    rw [List.map_cons, allE, allE, allE_map f g h l fun q hq => hj q (by simp [hq]), hj p (by simp)]
    cases j p.2.1 p.2.2 with
    | none => rfl
    | some v => cases allE j l <;> rfl

/-- By number, by writer, by text. -/
def cmpL : List Str → List Str → Int
  | [], [] => 0
  | [], _ :: _ => -1
  | _ :: _, [] => 1
  | x :: a, y :: b => if cmpS x y = 0 then cmpL a b else cmpS x y
def writerI (x y : Va) : Int := if cmpI x.n y.n = 0 then (if cmpI x.m y.m = 0 then cmpL x.s y.s else cmpI x.m y.m) else cmpI x.n y.n
def lastE (x y : Va) : Va := if writerI x y < 0 then .mk y.n y.m y.s [] [] else .mk x.n x.m x.s [] []
def clockE (x y : Va) : Option Va := if (x.c ++ y.c).foldl mergeC [] = [] then some .zero else if 40 < ((x.c ++ y.c).foldl mergeC []).length then none else some (.mk 0 0 [] [(x.c ++ y.c).foldl mergeC []] [])
/-- Zero where a pair is zero. -/
def halfE (x : Va) (i : Nat) : Va := x.v[i]?.getD .zero
def setE (x y : Va) : Option Va := if 40 < (bothL x.s y.s).length then none else some (.mk 0 0 (bothL x.s y.s) [] [])
/-- Has another one seen it? -/
def seenE (l : List Tk) (cs : List (List Tk)) : Bool := cs.any fun o => decide (cmpC l o = -1)

def mapE (f : Va → Va → Option Va) (x y : Va) : Option Va := (togE f (mix cmpS .zero (x.s.zip x.v) (y.s.zip y.v))).map fun l => .mk 0 0 (l.map (·.1)) [] (l.map (·.2))
def causeE (f : Va → Va → Option Va) (x y : Va) : Option Va := (togE f ((mix cmpT .zero (x.c.zip x.v) (y.c.zip y.v)).filter fun p => !seenE p.1 (x.c ++ y.c))).map fun l => .mk 0 0 [] (l.map (·.1)) (l.map (·.2))
def pairE (f g : Va → Va → Option Va) (x y : Va) : Option Va := (f (halfE x 0) (halfE y 0)).bind fun u => (g (halfE x 1) (halfE y 1)).map fun v => .mk 0 0 [] [] [u, v]

/-- Both together; none, where it is too large. -/
def joinE : Tr → Va → Va → Option Va
  | .mk k [], x, y => if k = 3 then setE x y else if k = 6 then some (lastE x y) else if k = 7 then clockE x y else some (.mk (max x.n y.n) 0 [] [] [])
  | .mk k [a], x, y => if k = 4 then mapE (joinE a) x y else causeE (joinE a) x y
  | .mk _ [a, b], x, y => pairE (joinE a) (joinE b) x y
  | .mk _ (_ :: _ :: _ :: _), _, _ => none
end Go.Proofs.YtleejffjnknohaaGreat.J5
