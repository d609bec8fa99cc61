/- Two rows gone through together: plain mathematics. No condition. -/
import Derived.Test.YtmemagokddfohaaNorm
import Derived.Test.YtmemagokddfohaaRef1c
namespace Go.Proofs.Ytmemagokddfohaa

/-- x ahead of the first row, f what is told of the rest of it with whatever second row. -/
def beIn (x : Str) (f : List Str → List (Str × Int)) : List Str → List (Str × Int)
  | [] => (x, 0) :: f []
  | y :: yr => if x < y then (x, 0) :: f (y :: yr) else if y < x then (y, 1) :: beIn x f yr else (x, 2) :: f yr

/-- Two rows together: each string once, with its side: 0 the first row's alone, 1 the second one's alone, 2 of both. -/
def be : List Str → List Str → List (Str × Int)
  | [] => fun ys => ys.map fun y => (y, 1)
  | x :: xr => beIn x (be xr)

theorem be_nil : be [] [] = [] := rfl
theorem be_right (y : Str) (yr : List Str) : be [] (y :: yr) = (y, 1) :: be [] yr := rfl
theorem be_left (x : Str) (xr : List Str) : be (x :: xr) [] = (x, 0) :: be xr [] := rfl
theorem be_lt {x y : Str} (xr yr : List Str) (h : x < y) : be (x :: xr) (y :: yr) = (x, 0) :: be xr (y :: yr) := by
  show beIn x (be xr) (y :: yr) = _
  rw [beIn, if_pos h]
theorem be_gt {x y : Str} (xr yr : List Str) (h : y < x) : be (x :: xr) (y :: yr) = (y, 1) :: be (x :: xr) yr := by
  show beIn x (be xr) (y :: yr) = (y, 1) :: beIn x (be xr) yr
  rw [beIn, if_neg (str_asymm h), if_pos h]
theorem be_eq (x : Str) (xr yr : List Str) : be (x :: xr) (x :: yr) = (x, 2) :: be xr yr := by
  show beIn x (be xr) (x :: yr) = _
  rw [beIn, if_neg (str_irrefl x), if_neg (str_irrefl x)]

/-- By both rows: a rule to prove what holds of them gone through together. -/
theorem be_rule {C : List Str → List Str → Prop} (h0 : C [] []) (hr : ∀ y yr, C [] yr → C [] (y :: yr)) (hl : ∀ x xr, C xr [] → C (x :: xr) [])
    (hlt : ∀ x xr y yr, x < y → C xr (y :: yr) → C (x :: xr) (y :: yr)) (hgt : ∀ x xr y yr, y < x → C (x :: xr) yr → C (x :: xr) (y :: yr))
    (heq : ∀ x xr yr, C xr yr → C (x :: xr) (x :: yr)) : ∀ xs ys, C xs ys := by
  intro xs
  induction xs with
  | nil =>
    intro ys
    induction ys with
    | nil => exact h0
    | cons y yr ih => exact hr y yr ih
  | cons x xr ih =>
    intro ys
    induction ys with
    | nil => exact hl x xr (ih [])
    | cons y yr ih2 =>
      rcases str_tri x y with h | h | h
      · exact hlt x xr y yr h (ih (y :: yr))
      · subst h; exact heq x xr yr (ih yr)
      · exact hgt x xr y yr h ih2

theorem be_len : ∀ xs ys, (be xs ys).length ≤ xs.length + ys.length := by
  refine be_rule ?_ ?_ ?_ ?_ ?_ ?_
  · simp [be_nil]
  · intro y yr h; rw [be_right]; simp at h ⊢; omega
  · intro x xr h; rw [be_left]; simp at h ⊢; omega
  · intro x xr y yr hlt h; rw [be_lt _ _ hlt]; simp at h ⊢; omega
  · intro x xr y yr hlt h; rw [be_gt _ _ hlt]; simp at h ⊢; omega
  · intro x xr yr h; rw [be_eq]; simp at h ⊢; omega

/-- Each string of both rows is there, and no other one. -/
theorem mem_be (z : Str) : ∀ xs ys, z ∈ (be xs ys).map (·.1) ↔ z ∈ xs ∨ z ∈ ys := by
  refine be_rule ?_ ?_ ?_ ?_ ?_ ?_
  · simp [be_nil]
  · intro y yr h; rw [be_right, List.map_cons, List.mem_cons, h, List.mem_cons]; simp
  · intro x xr h; rw [be_left, List.map_cons, List.mem_cons, h, List.mem_cons]; simp
  · intro x xr y yr hlt h
    rw [be_lt _ _ hlt, List.map_cons, List.mem_cons, h, List.mem_cons (l := xr), or_assoc]
  · intro x xr y yr hlt h
    rw [be_gt _ _ hlt, List.map_cons, List.mem_cons, h, List.mem_cons (l := yr)]
    exact ⟨fun k => k.elim (fun k => .inr (.inl k)) (fun k => k.elim .inl (fun k => .inr (.inr k))), fun k => k.elim (fun k => .inr (.inl k)) (fun k => k.elim .inl (fun k => .inr (.inr k)))⟩
  · intro x xr yr h
    rw [be_eq, List.map_cons, List.mem_cons, h, List.mem_cons, List.mem_cons]
    exact ⟨fun k => k.elim (fun k => .inl (.inl k)) (fun k => k.elim (fun k => .inl (.inr k)) (fun k => .inr (.inr k))), fun k => k.elim (fun k => k.elim .inl (fun k => .inr (.inl k))) (fun k => k.elim .inl (fun k => .inr (.inr k)))⟩

/-- Of rows that rise: they come rising. -/
theorem srt_be : ∀ xs ys, Srt xs → Srt ys → Srt ((be xs ys).map (·.1)) := by
  refine be_rule ?_ ?_ ?_ ?_ ?_ ?_
  · intros; simp [be_nil]
  · intro y yr h h1 h2
    obtain ⟨a, b⟩ := List.pairwise_cons.1 h2
    rw [be_right, List.map_cons]
    refine List.pairwise_cons.2 ⟨fun z hz => ?_, h h1 b⟩
    rcases (mem_be z _ _).1 hz with k | k
    · cases k
    · exact a z k
  · intro x xr h h1 h2
    obtain ⟨a, b⟩ := List.pairwise_cons.1 h1
    rw [be_left, List.map_cons]
    refine List.pairwise_cons.2 ⟨fun z hz => ?_, h b h2⟩
    rcases (mem_be z _ _).1 hz with k | k
    · exact a z k
    · cases k
  · intro x xr y yr hlt h h1 h2
    obtain ⟨a, b⟩ := List.pairwise_cons.1 h1
    obtain ⟨a2, b2⟩ := List.pairwise_cons.1 h2
    rw [be_lt _ _ hlt, List.map_cons]
    refine List.pairwise_cons.2 ⟨fun z hz => ?_, h b h2⟩
    rcases (mem_be z _ _).1 hz with k | k
    · exact a z k
    · rcases List.mem_cons.1 k with e | e
      · rw [e]; exact hlt
      · exact str_trans hlt (a2 z e)
  · intro x xr y yr hlt h h1 h2
    obtain ⟨a, b⟩ := List.pairwise_cons.1 h1
    obtain ⟨a2, b2⟩ := List.pairwise_cons.1 h2
    rw [be_gt _ _ hlt, List.map_cons]
    refine List.pairwise_cons.2 ⟨fun z hz => ?_, h h1 b2⟩
    rcases (mem_be z _ _).1 hz with k | k
    · rcases List.mem_cons.1 k with e | e
      · rw [e]; exact hlt
      · exact str_trans hlt (a z e)
    · exact a2 z k
  · intro x xr yr h h1 h2
    obtain ⟨a, b⟩ := List.pairwise_cons.1 h1
    obtain ⟨a2, b2⟩ := List.pairwise_cons.1 h2
    rw [be_eq, List.map_cons]
    refine List.pairwise_cons.2 ⟨fun z hz => ?_, h b b2⟩
    rcases (mem_be z _ _).1 hz with k | k
    · exact a z k
    · exact a2 z k

theorem be_both {xs ys : List Str} (h1 : Srt xs) (h2 : Srt ys) : (be xs ys).map (·.1) = bothL xs ys :=
  srt_ext (srt_be xs ys h1 h2) (srt_bothL h1) fun z => by rw [mem_be, mem_bothL]

/-- The strings of pairs. -/
def keysL (l : List (Str × Int)) : List Str := l.map (·.1)
theorem keysL_snoc (l : List (Str × Int)) (p : Str × Int) : keysL (l ++ [p]) = keysL l ++ [p.1] := by simp [keysL]
theorem keysL_len (l : List (Str × Int)) : (keysL l).length = l.length := by simp [keysL]

/-- The strings of the first row alone. -/
def onlyL (l : List (Str × Int)) : List Str := (l.filter fun p => decide (p.2 = 0)).map (·.1)

theorem onlyL_cons0 (x : Str) (l : List (Str × Int)) : onlyL ((x, 0) :: l) = x :: onlyL l := by simp [onlyL]
theorem onlyL_cons1 (x : Str) (l : List (Str × Int)) : onlyL ((x, 1) :: l) = onlyL l := by simp [onlyL]
theorem onlyL_cons2 (x : Str) (l : List (Str × Int)) : onlyL ((x, 2) :: l) = onlyL l := by simp [onlyL]
theorem onlyL_snoc (l : List (Str × Int)) (p : Str × Int) : onlyL (l ++ [p]) = onlyL l ++ if p.2 = 0 then [p.1] else [] := by
  unfold onlyL
  rw [List.filter_append, List.map_append]
  by_cases h : p.2 = 0 <;> simp [h]
theorem onlyL_len (l : List (Str × Int)) : (onlyL l).length ≤ l.length := by
  unfold onlyL; rw [List.length_map]; exact List.length_filter_le _ _

theorem only_be : ∀ xs ys, Srt xs → Srt ys → onlyL (be xs ys) = xs.filter fun x => decide (x ∉ ys) := by
  have tail : ∀ {y : Str} {yr zs : List Str}, (∀ z ∈ zs, y < z) → (zs.filter fun z => decide (z ∉ y :: yr)) = zs.filter fun z => decide (z ∉ yr) := by
    intro y yr zs h
    refine List.filter_congr fun z hz => ?_
    have hne : z ≠ y := fun e => str_irrefl y (by have := h z hz; rw [e] at this; exact this)
    simp [hne]
  refine be_rule ?_ ?_ ?_ ?_ ?_ ?_
  · intros; simp [be_nil, onlyL]
  · intro y yr h h1 h2
    rw [be_right, onlyL_cons1, h h1 (List.pairwise_cons.1 h2).2]
    simp
  · intro x xr h h1 h2
    rw [be_left, onlyL_cons0, h (List.pairwise_cons.1 h1).2 h2]
    simp
  · intro x xr y yr hlt h h1 h2
    obtain ⟨a2, b2⟩ := List.pairwise_cons.1 h2
    have hx : x ∉ y :: yr := by
      intro hm
      rcases List.mem_cons.1 hm with e | e
      · rw [e] at hlt; exact str_irrefl y hlt
      · exact str_asymm hlt (a2 x e)
    rw [be_lt _ _ hlt, onlyL_cons0, h (List.pairwise_cons.1 h1).2 h2, List.filter_cons_of_pos (by simpa using hx)]
  · intro x xr y yr hlt h h1 h2
    obtain ⟨a, _⟩ := List.pairwise_cons.1 h1
    rw [be_gt _ _ hlt, onlyL_cons1, h h1 (List.pairwise_cons.1 h2).2, tail]
    intro z hz
    rcases List.mem_cons.1 hz with e | e
    · rw [e]; exact hlt
    · exact str_trans hlt (a z e)
  · intro x xr yr h h1 h2
    obtain ⟨a, b⟩ := List.pairwise_cons.1 h1
    rw [be_eq, onlyL_cons2, h b (List.pairwise_cons.1 h2).2, List.filter_cons_of_neg (by simp), tail a]

theorem only_less {xs : List Str} {s : Str} (h1 : Srt xs) : onlyL (be xs [s]) = lessL s xs := by
  rw [only_be xs [s] h1 (by simp [Srt])]
  unfold lessL
  exact List.filter_congr fun z _ => by simp

theorem only_within {xs ys : List Str} (h1 : Srt xs) (h2 : Srt ys) : onlyL (be xs ys) = [] ↔ Wi xs ys := by
  rw [only_be xs ys h1 h2, List.filter_eq_nil_iff]
  simp
end Go.Proofs.Ytmemagokddfohaa
