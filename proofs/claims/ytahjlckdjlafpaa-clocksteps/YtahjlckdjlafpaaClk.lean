/- Clocks as plain lists: what is one, numbers, one more, both, order. No condition. -/
import Derived.Test.YtahjlckdjlafpaaWords
namespace Go.Proofs.Ytahjlckdjlafpaa
open Go.RowKit

/-- A tick: who, and how often. -/
structure Tk where
  k : Int
  n : Int
deriving DecidableEq

def Asc (l : List Tk) : Prop := l.Pairwise fun a b => a.k < b.k
instance (l : List Tk) : Decidable (Asc l) := by unfold Asc; infer_instance

/-- A tick that no clock has. -/
def bad (t : Tk) : Bool := decide (t.k < 0) || (decide (1000000 < t.k) || decide (t.n = 0))

def isC (l : List Tk) : Bool := decide (l.length ≤ 40) && (decide (Asc l) && !l.any bad)

def ofC : List Tk → Int → Int
  | [], _ => 0
  | x :: l, q => if x.k = q then x.n else ofC l q

def withC : List Tk → Int → Int → List Tk
  | [], q, n => [⟨q, n⟩]
  | x :: l, q, n => if x.k < q then x :: withC l q n else if x.k = q then ⟨q, max n x.n⟩ :: l else ⟨q, n⟩ :: x :: l

def laterC (x y : Tk) : Tk := if x.n < y.n then y else x

def mergeC : List Tk → List Tk → List Tk
  | [], b => b
  | x :: a, [] => x :: a
  | x :: a, y :: b => if x.k < y.k then x :: mergeC a (y :: b) else if y.k < x.k then y :: mergeC (x :: a) b else laterC x y :: mergeC a b
termination_by a b => a.length + b.length

def joinC (a b : List Tk) : List Tk := b.foldl (fun o t => withC o t.k t.n) a

def upN (n : Int) : Int := if n < 18446744073709551615 then n + 1 else n
def upC (l : List Tk) (q : Int) : List Tk := withC l q (upN (ofC l q))

def underC (a b : List Tk) : Bool := a.all fun t => decide (t.n ≤ ofC b t.k)
def cmpB (x y : Bool) : Int := match x, y with
  | true, true => 0
  | true, false => -1
  | false, true => 1
  | false, false => 2
def cmpC (a b : List Tk) : Int := cmpB (underC a b) (underC b a)

/-- Numbers that a uint64 can be. -/
def Nok (l : List Tk) : Prop := ∀ x ∈ l, 0 ≤ x.n ∧ x.n ≤ 18446744073709551615

theorem mergeC_nil_left (b : List Tk) : mergeC [] b = b := by rw [mergeC]
theorem mergeC_nil_right (a : List Tk) : mergeC a [] = a := by cases a <;> rw [mergeC]
theorem mergeC_lt {x y : Tk} (a b : List Tk) (h : x.k < y.k) : mergeC (x :: a) (y :: b) = x :: mergeC a (y :: b) := by rw [mergeC, if_pos h]
theorem mergeC_gt {x y : Tk} (a b : List Tk) (h : y.k < x.k) : mergeC (x :: a) (y :: b) = y :: mergeC (x :: a) b := by rw [mergeC, if_neg (by omega), if_pos h]
theorem mergeC_eq {x y : Tk} (a b : List Tk) (h : x.k = y.k) : mergeC (x :: a) (y :: b) = laterC x y :: mergeC a b := by rw [mergeC, if_neg (by omega), if_neg (by omega)]

theorem laterC_max {x y : Tk} (h : x.k = y.k) : laterC x y = ⟨y.k, max y.n x.n⟩ := by
  obtain ⟨xk, xn⟩ := x
  obtain ⟨yk, yn⟩ := y
  unfold laterC
  dsimp only at h ⊢
  subst h
  split
  · rw [Int.max_eq_left (by omega)]
  · rw [Int.max_eq_right (by omega)]

/-- One tick, merged, is put at its place. -/
theorem mergeC_one (t : Tk) : ∀ a, mergeC a [t] = withC a t.k t.n
  | [] => by rw [mergeC_nil_left, withC]
  | x :: a => by
    rw [withC]
    by_cases h : x.k < t.k
    · rw [mergeC_lt _ _ h, if_pos h, mergeC_one t a]
    · rw [if_neg h]
      by_cases h2 : x.k = t.k
      · rw [mergeC_eq _ _ h2, if_pos h2, mergeC_nil_right, laterC_max h2]
      · rw [mergeC_gt _ _ (by omega), if_neg h2, mergeC_nil_right]

theorem withC_end {q n : Int} : ∀ {b : List Tk}, (∀ y ∈ b, y.k < q) → withC b q n = b ++ [⟨q, n⟩]
  | [], _ => by rw [withC]; rfl
  | y :: b, h => by
    rw [withC, if_pos (h y (by simp)), withC_end fun z hz => h z (by simp [hz])]
    rfl

theorem mergeC_snoc (t : Tk) (a b : List Tk) : (∀ y ∈ b, y.k < t.k) → mergeC a (b ++ [t]) = withC (mergeC a b) t.k t.n := by
  intro h
  induction a, b using mergeC.induct with
  | case1 b => rw [mergeC_nil_left, mergeC_nil_left, withC_end h]
  | case2 x a => rw [mergeC_nil_right, List.nil_append, mergeC_one]
  | case3 x a y b hlt ih =>
    have hy := h y (by simp)
    rw [List.cons_append, mergeC_lt _ _ hlt, mergeC_lt _ _ hlt, withC, if_pos (by omega), ← ih h]
    rfl
  | case4 x a y b hlt hgt ih =>
    have hy := h y (by simp)
    rw [List.cons_append, mergeC_gt _ _ hgt, mergeC_gt _ _ hgt, withC, if_pos (by omega), ← ih fun z hz => h z (by simp [hz])]
  | case5 x a y b hlt hgt ih =>
    have hy := h y (by simp)
    have he : x.k = y.k := by omega
    rw [List.cons_append, mergeC_eq _ _ he, mergeC_eq _ _ he, withC, if_pos (by rw [laterC_max he]; exact hy), ← ih fun z hz => h z (by simp [hz])]

theorem merge_join_at (a : List Tk) : ∀ b p, Asc (p ++ b) → mergeC a (p ++ b) = joinC (mergeC a p) b := by
  intro b
  induction b with
  | nil => intro p _; rw [List.append_nil]; rfl
  | cons t b ih =>
    intro p h
    have h' := List.pairwise_append.1 h
    have e : p ++ t :: b = (p ++ [t]) ++ b := by simp
    have e2 : joinC (mergeC a p) (t :: b) = joinC (withC (mergeC a p) t.k t.n) b := rfl
    rw [e2, e, ih (p ++ [t]) (by rw [← e]; exact h), mergeC_snoc t a p (fun y hy => h'.2.2 y hy t (by simp))]

theorem merge_join (a b : List Tk) (h : Asc b) : mergeC a b = joinC a b := by
  have := merge_join_at a b [] h
  rwa [mergeC_nil_right] at this

theorem isC_out {l : List Tk} (h : isC l = true) : l.length ≤ 40 ∧ Asc l ∧ ∀ x ∈ l, 0 ≤ x.k ∧ x.k ≤ 1000000 ∧ x.n ≠ 0 := by
  unfold isC at h
  rw [Bool.and_eq_true, Bool.and_eq_true, Bool.not_eq_true'] at h
  refine ⟨of_decide_eq_true h.1, of_decide_eq_true h.2.1, fun x hx => ?_⟩
  have := List.any_eq_false.1 h.2.2 x hx
  unfold bad at this
  rw [Bool.not_eq_true, Bool.or_eq_false_iff, Bool.or_eq_false_iff] at this
  have h1 := of_decide_eq_false this.1
  have h2 := of_decide_eq_false this.2.1
  have h3 := of_decide_eq_false this.2.2
  exact ⟨by omega, by omega, h3⟩

theorem isC_mk {l : List Tk} (h1 : l.length ≤ 40) (h2 : Asc l) (h3 : ∀ x ∈ l, 0 ≤ x.k ∧ x.k ≤ 1000000 ∧ x.n ≠ 0) : isC l = true := by
  unfold isC
  rw [Bool.and_eq_true, Bool.and_eq_true, Bool.not_eq_true']
  refine ⟨decide_eq_true h1, decide_eq_true h2, List.any_eq_false.2 fun x hx => ?_⟩
  obtain ⟨a, b, c⟩ := h3 x hx
  unfold bad
  rw [Bool.not_eq_true, Bool.or_eq_false_iff, Bool.or_eq_false_iff]
  exact ⟨decide_eq_false (by omega), decide_eq_false (by omega), decide_eq_false c⟩

theorem ofC_none {q : Int} : ∀ {l : List Tk}, (∀ x ∈ l, x.k ≠ q) → ofC l q = 0
  | [], _ => rfl
  | x :: l, h => by rw [ofC, if_neg (h x (by simp)), ofC_none fun z hz => h z (by simp [hz])]

theorem ofC_mem {l : List Tk} {x : Tk} (h : Asc l) (hx : x ∈ l) : ofC l x.k = x.n := by
  induction l with
  | nil => cases hx
  | cons y l ih =>
    have hp := List.pairwise_cons.1 h
    rw [ofC]
    rcases List.mem_cons.1 hx with rfl | h'
    · rw [if_pos rfl]
    · rw [if_neg (by have := hp.1 x h'; omega), ih hp.2 h']

theorem ofC_nok {l : List Tk} (h : Nok l) (q : Int) : 0 ≤ ofC l q ∧ ofC l q ≤ 18446744073709551615 := by
  induction l with
  | nil => exact ⟨by simp [ofC], by simp [ofC]⟩
  | cons x l ih =>
    rw [ofC]
    split
    · exact h x (by simp)
    · exact ih fun y hy => h y (by simp [hy])

theorem upN_nok {n : Int} (h : 0 ≤ n ∧ n ≤ 18446744073709551615) : 0 < upN n ∧ upN n ≤ 18446744073709551615 := by
  unfold upN
  split <;> omega

theorem withC_mem {q n : Int} {x : Tk} : ∀ {l : List Tk}, x ∈ withC l q n → x ∈ l ∨ (x.k = q ∧ (x.n = n ∨ ∃ y ∈ l, y.k = q ∧ x.n = max n y.n))
  | [], h => by
    rw [withC, List.mem_singleton] at h
    subst h
    exact .inr ⟨rfl, .inl rfl⟩
  | y :: l, h => by
    rw [withC] at h
    split at h
    · rcases List.mem_cons.1 h with rfl | h'
      · exact .inl (by simp)
      · rcases withC_mem h' with h1 | ⟨h1, h2 | ⟨z, hz, h3, h4⟩⟩
        · exact .inl (by simp [h1])
        · exact .inr ⟨h1, .inl h2⟩
        · exact .inr ⟨h1, .inr ⟨z, by simp [hz], h3, h4⟩⟩
    · split at h
      · rename_i _ he
        rcases List.mem_cons.1 h with rfl | h'
        · exact .inr ⟨rfl, .inr ⟨y, by simp, he, rfl⟩⟩
        · exact .inl (by simp [h'])
      · rcases List.mem_cons.1 h with rfl | h'
        · exact .inr ⟨rfl, .inl rfl⟩
        · exact .inl h'

theorem withC_nok {l : List Tk} {q n : Int} (h : Nok l) (hn : 0 ≤ n ∧ n ≤ 18446744073709551615) : Nok (withC l q n) := by
  intro x hx
  rcases withC_mem hx with h1 | ⟨_, h2 | ⟨y, hy, _, h3⟩⟩
  · exact h x h1
  · rw [h2]; exact hn
  · have := h y hy
    rw [h3]
    omega

theorem withC_len (q n : Int) : ∀ l : List Tk, (withC l q n).length ≤ l.length + 1
  | [] => by rw [withC]; simp
  | x :: l => by
    rw [withC]
    have := withC_len q n l
    split
    · simp; omega
    · split <;> simp

theorem joinC_len (b : List Tk) : ∀ a : List Tk, (joinC a b).length ≤ a.length + b.length := by
  induction b with
  | nil => intro a; simp [joinC]
  | cons t b ih =>
    intro a
    have h1 := ih (withC a t.k t.n)
    have h2 := withC_len t.k t.n a
    have e : joinC a (t :: b) = joinC (withC a t.k t.n) b := rfl
    rw [e]
    simp
    omega

theorem mergeC_len (a b : List Tk) : (mergeC a b).length ≤ a.length + b.length := by
  induction a, b using mergeC.induct with
  | case1 b => rw [mergeC_nil_left]; simp
  | case2 x a => rw [mergeC_nil_right]; simp
  | case3 x a y b hlt ih => rw [mergeC_lt _ _ hlt]; simp at ih ⊢; omega
  | case4 x a y b hlt hgt ih => rw [mergeC_gt _ _ hgt]; simp at ih ⊢; omega
  | case5 x a y b hlt hgt ih => rw [mergeC_eq _ _ (by omega)]; simp at ih ⊢; omega
end Go.Proofs.Ytahjlckdjlafpaa
