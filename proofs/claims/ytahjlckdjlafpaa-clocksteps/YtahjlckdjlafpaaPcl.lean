/- Steps of a clock, as plain mathematics. No condition. -/
import Derived.Test.YtahjlckdjlafpaaClk
namespace Go.Proofs.Ytahjlckdjlafpaa
open Go.RowKit

theorem withC_ge {q n : Int} {l : List Tk} {p : Int} (hp : p < q) (h : ∀ x ∈ l, p < x.k) : ∀ x ∈ withC l q n, p < x.k := by
  intro x hx
  rcases withC_mem hx with h1 | ⟨h1, _⟩
  · exact h x h1
  · rw [h1]; exact hp

theorem withC_asc {q n : Int} : ∀ {l : List Tk}, Asc l → Asc (withC l q n)
  | [], _ => by rw [withC]; exact List.pairwise_singleton _ _
  | x :: l, h => by
    have hp := List.pairwise_cons.1 h
    rw [withC]
    split
    · rename_i hlt
      exact List.pairwise_cons.2 ⟨withC_ge hlt hp.1, withC_asc hp.2⟩
    · rename_i hge
      split
      · rename_i he
        exact List.pairwise_cons.2 ⟨fun y hy => by have := hp.1 y hy; dsimp only; omega, hp.2⟩
      · rename_i hne
        refine List.pairwise_cons.2 ⟨fun y hy => ?_, h⟩
        rcases List.mem_cons.1 hy with rfl | hy
        · dsimp only; omega
        · have := hp.1 y hy
          dsimp only; omega

theorem ofC_with_self {q n : Int} : ∀ {l : List Tk}, ofC l q ≤ n → ofC (withC l q n) q = n
  | [], _ => by rw [withC, ofC, if_pos rfl]
  | x :: l, h => by
    rw [withC]
    rw [ofC] at h
    split
    · rename_i hlt
      rw [if_neg (by omega)] at h
      rw [ofC, if_neg (by omega), ofC_with_self h]
    · split
      · rename_i he
        rw [if_pos he] at h
        rw [ofC, if_pos rfl]
        dsimp only
        omega
      · rw [ofC, if_pos rfl]

theorem ofC_with_other {q n p : Int} (hp : p ≠ q) : ∀ {l : List Tk}, ofC (withC l q n) p = ofC l p
  | [] => by
    rw [withC]
    show (if q = p then n else ofC [] p) = ofC [] p
    rw [if_neg (by omega)]
  | x :: l => by
    rw [withC]
    split
    · rw [ofC, ofC, ofC_with_other hp]
    · split
      · rename_i he
        rw [ofC, ofC, if_neg (by dsimp only; omega), if_neg (by omega)]
      · rw [ofC, if_neg (by dsimp only; omega)]

def sumC : List Tk → Int
  | [] => 0
  | x :: l => x.n + sumC l

theorem sumC_append : ∀ (a b : List Tk), sumC (a ++ b) = sumC a + sumC b
  | [], b => by simp [sumC]
  | x :: a, b => by rw [List.cons_append, sumC, sumC, sumC_append a b]; omega

theorem sumC_with {q : Int} : ∀ {l : List Tk}, Asc l → sumC (withC l q (ofC l q + 1)) = sumC l + 1
  | [], _ => by rw [withC, ofC]; simp [sumC]
  | x :: l, h => by
    have hp := List.pairwise_cons.1 h
    rw [withC, ofC]
    split
    · rename_i hlt
      rw [if_neg (by omega), sumC, sumC, sumC_with hp.2]
      omega
    · split
      · rw [sumC, sumC]
        dsimp only
        omega
      · rename_i h1 h2
        have e : ofC l q = 0 := ofC_none fun y hy => by have := hp.1 y hy; omega
        rw [e, sumC]
        dsimp only
        omega

theorem asc_len {l : List Tk} : ∀ {m : Nat}, Asc l → (∀ x ∈ l, 0 ≤ x.k ∧ 8 - (m : Int) ≤ x.k ∧ x.k < 8) → l.length ≤ m := by
  induction l with
  | nil => intro m _ _; simp
  | cons x l ih =>
    intro m h hk
    have hp := List.pairwise_cons.1 h
    have hx := hk x (by simp)
    cases m with
    | zero => omega
    | succ m =>
      have := ih (m := m) hp.2 (fun y hy => by
        have h1 := hp.1 y hy
        have h2 := hk y (by simp [hy])
        refine ⟨h2.1, ?_, h2.2.2⟩
        omega)
      simp
      omega

theorem ofC_has {q : Int} : ∀ {l : List Tk}, ofC l q ≠ 0 → ∃ t ∈ l, t.k = q ∧ t.n = ofC l q
  | [], h => absurd rfl h
  | x :: l, h => by
    rw [ofC] at h ⊢
    by_cases he : x.k = q
    · rw [if_pos he]
      exact ⟨x, by simp, he, rfl⟩
    · rw [if_neg he] at h ⊢
      obtain ⟨t, h1, h2, h3⟩ := ofC_has h
      exact ⟨t, by simp [h1], h2, h3⟩

/-- A clock that came of m steps of eight actors. -/
structure Good (l : List Tk) (m : Nat) : Prop where
  asc : Asc l
  all : ∀ x ∈ l, 0 ≤ x.k ∧ x.k < 8 ∧ 0 < x.n ∧ x.n ≤ m
  sum : sumC l = m

theorem Good.nil : Good [] 0 := ⟨List.Pairwise.nil, (fun x hx => by cases hx), rfl⟩
theorem Good.len {l : List Tk} {m : Nat} (h : Good l m) : l.length ≤ 8 := asc_len h.asc fun x hx => by
  have := h.all x hx
  exact ⟨this.1, by omega, this.2.1⟩
theorem Good.of {l : List Tk} {m : Nat} (h : Good l m) (q : Int) : 0 ≤ ofC l q ∧ ofC l q ≤ m := by
  by_cases h0 : ofC l q = 0
  · rw [h0]; exact ⟨Int.le_refl _, by omega⟩
  · obtain ⟨t, h1, _, h3⟩ := ofC_has h0
    have := h.all t h1
    rw [← h3]
    omega

theorem Good.up {l : List Tk} {m : Nat} (h : Good l m) {q : Int} (hm : m ≤ 60) : upC l q = withC l q (ofC l q + 1) := by
  have := h.of q
  unfold upC upN
  rw [if_pos (by omega)]

theorem Good.step {l : List Tk} {m : Nat} (h : Good l m) {q : Int} (hq : 0 ≤ q ∧ q < 8) : Good (withC l q (ofC l q + 1)) (m + 1) := by
  refine ⟨withC_asc h.asc, fun x hx => ?_, by rw [sumC_with h.asc, h.sum]; omega⟩
  have ho := h.of q
  rcases withC_mem hx with h1 | ⟨h1, h2 | ⟨y, hy, _, h3⟩⟩
  · have := h.all x h1
    omega
  · rw [h1, h2]; omega
  · have := h.all y hy
    rw [h1, h3]; omega

theorem Good.isC {l : List Tk} {m : Nat} (h : Good l m) : isC l = true := by
  refine isC_mk (by have := h.len; omega) h.asc fun x hx => ?_
  have := h.all x hx
  exact ⟨this.1, by omega, by omega⟩

theorem Good.self {l : List Tk} {q : Int} : ofC (withC l q (ofC l q + 1)) q = ofC l q + 1 := ofC_with_self (by omega)

theorem Good.cmp {l : List Tk} {m : Nat} (h : Good l m) {q : Int} : cmpC l (withC l q (ofC l q + 1)) = -1 := by
  have h1 : underC l (withC l q (ofC l q + 1)) = true := by
    unfold underC
    rw [List.all_eq_true]
    intro t ht
    have hm := ofC_mem h.asc ht
    refine decide_eq_true ?_
    by_cases he : t.k = q
    · rw [he, Good.self, ← he, hm]
      omega
    · rw [ofC_with_other he, hm]
      exact Int.le_refl _
  have h2 : underC (withC l q (ofC l q + 1)) l = false := by
    unfold underC
    rw [List.all_eq_false]
    have ho := h.of q
    obtain ⟨t, ht, hk, hn⟩ := ofC_has (l := withC l q (ofC l q + 1)) (q := q) (by rw [Good.self]; omega)
    refine ⟨t, ht, ?_⟩
    rw [Good.self] at hn
    rw [hk, hn]
    simp
    omega
  unfold cmpC
  rw [h1, h2]
  rfl
end Go.Proofs.Ytahjlckdjlafpaa
