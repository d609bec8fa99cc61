/- Clocks and last writers as orders. Plain mathematics. No condition. Values of a schema as an order: less, or the same. Plain mathematics. No condition but that the schema is one. Values joined: the least that is not less than either. Plain mathematics. No condition but that the schema is one, and that the values are of it. Rows of values joined: the same in whatever order, however often. Plain mathematics. No condition but that no number is below 0. -/
import Derived.Test.YtdbohojncbeajaaGreatMo20
namespace Go.Proofs.YtdbohojncbeajaaGreat.J5
open C3 (Tk isC isC_out isC_mk Asc ofC ofC_none ofC_mem underC cmpB cmpC cmpI mergeC mergeC_nil_left mergeC_nil_right mergeC_lt mergeC_gt mergeC_eq laterC)
open V4 (Va)

/-- No number of it is below 0. -/
def NnC (l : List Tk) : Prop := ∀ t ∈ l, 0 ≤ t.n

theorem ofC_get (l : List Tk) (q : Int) : (∃ t ∈ l, t.k = q ∧ ofC l q = t.n) ∨ ((∀ t ∈ l, t.k ≠ q) ∧ ofC l q = 0) := by
  induction l with
  | nil => exact .inr ⟨(fun _ h => by cases h), rfl⟩
  | cons x l ih =>
    rw [ofC]
    by_cases h : x.k = q
    · rw [if_pos h]; exact .inl ⟨x, by simp, h, rfl⟩
    · rw [if_neg h]
      rcases ih with ⟨t, h1, h2, h3⟩ | ⟨h1, h2⟩
      · exact .inl ⟨t, by simp [h1], h2, h3⟩
      · refine .inr ⟨fun t ht => ?_, h2⟩
        rcases List.mem_cons.1 ht with rfl | ht
        · exact h
        · exact h1 t ht
theorem ofC_nn {l : List Tk} (h : NnC l) (q : Int) : 0 ≤ ofC l q := by
  rcases ofC_get l q with ⟨t, h1, _, h3⟩ | ⟨_, h2⟩
  · rw [h3]; exact h t h1
  · omega
theorem under_of {a b : List Tk} (h : underC a b = true) (hb : NnC b) (q : Int) : ofC a q ≤ ofC b q := by
  unfold underC at h
  rcases ofC_get a q with ⟨t, h1, h2, h3⟩ | ⟨_, h2⟩
  · have := of_decide_eq_true (List.all_eq_true.1 h t h1)
    rw [h3, ← h2]; exact this
  · rw [h2]; exact ofC_nn hb q
theorem under_mk {a b : List Tk} (ha : Asc a) (h : ∀ q, ofC a q ≤ ofC b q) : underC a b = true := by
  unfold underC
  refine List.all_eq_true.2 fun t ht => decide_eq_true ?_
  have := h t.k
  rwa [ofC_mem ha ht] at this
theorem under_trans {a b c : List Tk} (h1 : underC a b = true) (h2 : underC b c = true) (hc : NnC c) : underC a c = true := by
  unfold underC at h1 ⊢
  refine List.all_eq_true.2 fun t ht => decide_eq_true ?_
  have := of_decide_eq_true (List.all_eq_true.1 h1 t ht)
  have := under_of h2 hc t.k
  omega
theorem under_refl {a : List Tk} (h : Asc a) : underC a a = true := under_mk h fun _ => Int.le_refl _
theorem clock_ext {a b : List Tk} (ha : isC a = true) (hb : isC b = true) (h : ∀ q, ofC a q = ofC b q) : a = b := by
  obtain ⟨_, a1, a2⟩ := isC_out ha
  obtain ⟨_, b1, b2⟩ := isC_out hb
  have mem : ∀ {a b : List Tk}, Asc a → (∀ x ∈ a, 0 ≤ x.k ∧ x.k ≤ 1000000 ∧ x.n ≠ 0) → (∀ q, ofC a q = ofC b q) → ∀ t ∈ a, t ∈ b := fun {a b} ha hz h t ht => by
    have e := h t.k
    rw [ofC_mem ha ht] at e
    rcases ofC_get b t.k with ⟨u, h1, h2, h3⟩ | ⟨_, h2⟩
    · have : u = t := by cases u; cases t; simp at h2 h3 e; simp [h2, e, h3]
      rw [← this]; exact h1
    · exact absurd (e.trans h2) (hz t ht).2.2
  have ext : ∀ {a b : List Tk}, Asc a → Asc b → (∀ t, t ∈ a ↔ t ∈ b) → a = b := fun {a b} ha hb h => by
    have h1 : (a.map fun t => (t.k, t.n)) = b.map fun t => (t.k, t.n) := by
      refine up_ext (c := fun x y : Int => x - y) ⟨fun h => by omega, fun x => by omega, fun h => by omega, fun h1 h2 => by omega⟩ (List.pairwise_map.2 (ha.imp fun h => by simp; omega)) (List.pairwise_map.2 (hb.imp fun h => by simp; omega)) fun p => ?_
      rw [List.mem_map, List.mem_map]
      exact ⟨fun ⟨t, ht, e⟩ => ⟨t, (h t).1 ht, e⟩, fun ⟨t, ht, e⟩ => ⟨t, (h t).2 ht, e⟩⟩
    have h2 := congrArg (fun l : List (Int × Int) => l.map fun p => Tk.mk p.1 p.2) h1
    simpa [Function.comp_def] using h2
  exact ext a1 b1 fun t => ⟨mem a1 a2 h t, mem b1 b2 (fun q => (h q).symm) t⟩

theorem cmpC_lt {a b : List Tk} : cmpC a b = -1 ↔ underC a b = true ∧ underC b a = false := by
  unfold cmpC
  cases underC a b <;> cases underC b a <;> simp [cmpB]
theorem cmpC_trans {a b c : List Tk} (h1 : cmpC a b = -1) (h2 : cmpC b c = -1) (hb : NnC b) (hc : NnC c) : cmpC a c = -1 := by
  rw [cmpC_lt] at *
  refine ⟨under_trans h1.1 h2.1 hc, ?_⟩
  cases h : underC c a with
  | false => rfl
  | true =>
    have := under_trans h h1.1 hb
    rw [h2.2] at this
    cases this
theorem cmpC_irrefl (a : List Tk) : cmpC a a ≠ -1 := by
  rw [Ne, cmpC_lt]
  rintro ⟨h1, h2⟩
  rw [h1] at h2
  cases h2

theorem mem_merge {t : Tk} (a b : List Tk) (h : t ∈ mergeC a b) : t ∈ a ∨ t ∈ b := by
  induction a, b using mergeC.induct with
  | case1 b => rw [mergeC_nil_left] at h; exact .inr h
  | case2 x a => rw [mergeC_nil_right] at h; exact .inl h
  | case3 x a y b hlt ih =>
    rw [mergeC_lt _ _ hlt] at h
    rcases List.mem_cons.1 h with rfl | h
    · exact .inl (by simp)
    · exact (ih h).imp (fun h => by simp [h]) id
  | case4 x a y b hlt hgt ih =>
    rw [mergeC_gt _ _ hgt] at h
    rcases List.mem_cons.1 h with rfl | h
    · exact .inr (by simp)
    · exact (ih h).imp id (fun h => by simp [h])
  | case5 x a y b hlt hgt ih =>
    rw [mergeC_eq _ _ (by omega)] at h
    rcases List.mem_cons.1 h with e | h
    · subst e
      unfold laterC
      split
      · exact .inr (by simp)
      · exact .inl (by simp)
    · exact (ih h).imp (fun h => by simp [h]) (fun h => by simp [h])
theorem merge_asc (a b : List Tk) : Asc a → Asc b → Asc (mergeC a b) := by
  induction a, b using mergeC.induct with
  | case1 b => rw [mergeC_nil_left]; exact fun _ h => h
  | case2 x a => rw [mergeC_nil_right]; exact fun h _ => h
  | case3 x a y b hlt ih =>
    intro ha hb
    obtain ⟨a1, a2⟩ := List.pairwise_cons.1 ha
    obtain ⟨b1, b2⟩ := List.pairwise_cons.1 hb
    rw [mergeC_lt _ _ hlt]
    refine List.pairwise_cons.2 ⟨fun t ht => ?_, ih a2 hb⟩
    rcases mem_merge _ _ ht with h | h
    · exact a1 t h
    · rcases List.mem_cons.1 h with rfl | h
      · exact hlt
      · have := b1 t h; omega
  | case4 x a y b hlt hgt ih =>
    intro ha hb
    obtain ⟨a1, a2⟩ := List.pairwise_cons.1 ha
    obtain ⟨b1, b2⟩ := List.pairwise_cons.1 hb
    rw [mergeC_gt _ _ hgt]
    refine List.pairwise_cons.2 ⟨fun t ht => ?_, ih ha b2⟩
    rcases mem_merge _ _ ht with h | h
    · rcases List.mem_cons.1 h with rfl | h
      · exact hgt
      · have := a1 t h; omega
    · exact b1 t h
  | case5 x a y b hlt hgt ih =>
    intro ha hb
    obtain ⟨a1, a2⟩ := List.pairwise_cons.1 ha
    obtain ⟨b1, b2⟩ := List.pairwise_cons.1 hb
    have e : x.k = y.k := by omega
    rw [mergeC_eq _ _ e]
    refine List.pairwise_cons.2 ⟨fun t ht => ?_, ih a2 b2⟩
    have hk : (laterC x y).k = x.k := by unfold laterC; split; exact e.symm; rfl
    rw [hk]
    rcases mem_merge _ _ ht with h | h
    · exact a1 t h
    · rw [e]; exact b1 t h
theorem ofC_merge (a b : List Tk) : Asc a → Asc b → NnC a → NnC b → ∀ q, ofC (mergeC a b) q = max (ofC a q) (ofC b q) := by
  have low : ∀ {l : List Tk} {q : Int}, (∀ t ∈ l, q < t.k) → ofC l q = 0 := fun {l q} h => ofC_none fun t ht => by have := h t ht; omega
  induction a, b using mergeC.induct with
  | case1 b => intro _ _ _ hb q; rw [mergeC_nil_left, ofC]; have := ofC_nn hb q; omega
  | case2 x a => intro _ _ ha _ q; rw [mergeC_nil_right]; have := ofC_nn ha q; simp only [ofC] at this ⊢; omega
  | case3 x a y b hlt ih =>
    intro ha hb na nb q
    obtain ⟨a1, a2⟩ := List.pairwise_cons.1 ha
    obtain ⟨b1, b2⟩ := List.pairwise_cons.1 hb
    rw [mergeC_lt _ _ hlt, ofC, ih a2 hb (fun t ht => na t (by simp [ht])) nb q]
    by_cases h : x.k = q
    · rw [if_pos h, ofC, if_pos h]
      have : ofC (y :: b) q = 0 := low fun t ht => by
        rcases List.mem_cons.1 ht with rfl | ht
        · omega
        · have := b1 t ht; omega
      rw [this]
      have := na x (by simp); omega
    · rw [if_neg h, ofC.eq_2 q x a, if_neg h]
  | case4 x a y b hlt hgt ih =>
    intro ha hb na nb q
    obtain ⟨a1, a2⟩ := List.pairwise_cons.1 ha
    obtain ⟨b1, b2⟩ := List.pairwise_cons.1 hb
    rw [mergeC_gt _ _ hgt, ofC, ih ha b2 na (fun t ht => nb t (by simp [ht])) q]
    by_cases h : y.k = q
    · rw [if_pos h, ofC.eq_2 q y b, if_pos h]
      have : ofC (x :: a) q = 0 := low fun t ht => by
        rcases List.mem_cons.1 ht with rfl | ht
        · omega
        · have := a1 t ht; omega
      rw [this]
      have := nb y (by simp); omega
    · rw [if_neg h, ofC.eq_2 q y b, if_neg h]
  | case5 x a y b hlt hgt ih =>
    intro ha hb na nb q
    obtain ⟨a1, a2⟩ := List.pairwise_cons.1 ha
    obtain ⟨b1, b2⟩ := List.pairwise_cons.1 hb
    have e : x.k = y.k := by omega
    rw [mergeC_eq _ _ e, ofC, ih a2 b2 (fun t ht => na t (by simp [ht])) (fun t ht => nb t (by simp [ht])) q, ofC.eq_2 q x a, ofC.eq_2 q y b]
    have hk : (laterC x y).k = x.k := by unfold laterC; split; exact e.symm; rfl
    rw [hk, ← e]
    by_cases h : x.k = q
    · rw [if_pos h, if_pos h, if_pos h]
      unfold laterC
      split <;> omega
    · rw [if_neg h, if_neg h, if_neg h]

theorem Cmp.flip {M : Type} {c : M → M → Int} (hc : Cmp c) {x y : M} (h : c x y < 0) : 0 < c y x := by
  rcases Int.lt_trichotomy (c y x) 0 with h1 | h1 | h1
  · have := hc.trans h h1
    rw [hc.refl] at this; omega
  · exact absurd (hc.eq h1).symm (hc.ne h)
  · exact h1
theorem Cmp.le_trans {M : Type} {c : M → M → Int} (hc : Cmp c) {x y z : M} (h1 : c x y ≤ 0) (h2 : c y z ≤ 0) : c x z ≤ 0 := by
  rcases Int.lt_or_eq_of_le h1 with h1 | h1
  · rcases Int.lt_or_eq_of_le h2 with h2 | h2
    · exact Int.le_of_lt (hc.trans h1 h2)
    · rw [← hc.eq h2]; omega
  · rw [hc.eq h1]; exact h2
theorem Cmp.le_antisymm {M : Type} {c : M → M → Int} (hc : Cmp c) {x y : M} (h1 : c x y ≤ 0) (h2 : c y x ≤ 0) : x = y := by
  rcases Int.lt_or_eq_of_le h1 with h1 | h1
  · have := hc.flip h1; omega
  · exact hc.eq h1

/-- First by the one, then by the other. -/
def lexC {A B : Type} (c : A → A → Int) (d : B → B → Int) (x y : A × B) : Int := if c x.1 y.1 = 0 then d x.2 y.2 else c x.1 y.1
theorem lexC_ok {A B : Type} {c : A → A → Int} {d : B → B → Int} (hc : Cmp c) (hd : Cmp d) : Cmp (lexC c d) := by
  refine ⟨fun {x y} h => ?_, fun x => ?_, fun {x y} h => ?_, fun {x y z} h1 h2 => ?_⟩
  · unfold lexC at h
    by_cases h0 : c x.1 y.1 = 0
    · rw [if_pos h0] at h; exact Prod.ext (hc.eq h0) (hd.eq h)
    · rw [if_neg h0] at h; exact absurd h h0
  · unfold lexC; rw [if_pos (hc.refl _)]; exact hd.refl _
  · unfold lexC at h ⊢
    by_cases h0 : c x.1 y.1 = 0
    · rw [if_pos h0] at h
      rw [hc.eq h0, if_pos (hc.refl _)]; exact hd.gt h
    · rw [if_neg h0] at h
      have := hc.gt h
      rw [if_neg (by omega)]; exact this
  · unfold lexC at h1 h2 ⊢
    by_cases e1 : c x.1 y.1 = 0
    · rw [if_pos e1] at h1
      rw [hc.eq e1]
      by_cases e2 : c y.1 z.1 = 0
      · rw [if_pos e2] at h2 ⊢; exact hd.trans h1 h2
      · rw [if_neg e2] at h2 ⊢; exact h2
    · rw [if_neg e1] at h1
      by_cases e2 : c y.1 z.1 = 0
      · rw [if_pos e2] at h2
        rw [← hc.eq e2, if_neg e1]; exact h1
      · rw [if_neg e2] at h2
        have := hc.trans h1 h2
        rw [if_neg (by omega)]; exact this

theorem cmpI_ok : Cmp cmpI := by
  refine ⟨fun {x y} h => ?_, fun x => C3.cmpI_eq x, fun {x y} h => ?_, fun {x y z} h1 h2 => ?_⟩ <;> unfold cmpI at *
  · split at h
    · omega
    · split at h <;> omega
  · split at h
    · omega
    · split at h
      · rw [if_pos (by omega)]; decide
      · omega
  · have e1 : x < y := by
      split at h1
      · assumption
      · split at h1 <;> omega
    have e2 : y < z := by
      split at h2
      · assumption
      · split at h2 <;> omega
    rw [if_pos (by omega)]; decide
theorem cmpL_ok : Cmp cmpL := by
  have eq : ∀ x y : List Str, cmpL x y = 0 → x = y := by
    intro x
    induction x with
    | nil => intro y h; cases y with
      | nil => rfl
      | cons y b => simp [cmpL] at h
    | cons x a ih => intro y h; cases y with
      | nil => simp [cmpL] at h
      | cons y b =>
        rw [cmpL] at h
        by_cases h0 : cmpS x y = 0
        · rw [if_pos h0] at h; rw [cmpS_ok.eq h0, ih b h]
        · rw [if_neg h0] at h; exact absurd h h0
  have refl : ∀ x : List Str, cmpL x x = 0 := by
    intro x
    induction x with
    | nil => rfl
    | cons x a ih => rw [cmpL, if_pos (cmpS_ok.refl _), ih]
  have gt : ∀ x y : List Str, 0 < cmpL x y → cmpL y x < 0 := by
    intro x
    induction x with
    | nil => intro y h; cases y with
      | nil => simp [cmpL] at h
      | cons y b => simp [cmpL] at h
    | cons x a ih => intro y h; cases y with
      | nil => simp [cmpL]
      | cons y b =>
        rw [cmpL] at h ⊢
        by_cases h0 : cmpS x y = 0
        · rw [if_pos h0] at h
          rw [cmpS_ok.eq h0, if_pos (cmpS_ok.refl _)]; exact ih b h
        · rw [if_neg h0] at h
          have := cmpS_ok.gt h
          rw [if_neg (by omega)]; exact this
  have trans : ∀ x y z : List Str, cmpL x y < 0 → cmpL y z < 0 → cmpL x z < 0 := by
    intro x
    induction x with
    | nil => intro y z h1 h2; cases y with
      | nil => simp [cmpL] at h1
      | cons y b => cases z with
        | nil => simp [cmpL] at h2
        | cons z c => simp [cmpL]
    | cons x a ih => intro y z h1 h2; cases y with
      | nil => simp [cmpL] at h1
      | cons y b => cases z with
        | nil => simp [cmpL] at h2
        | cons z c =>
          rw [cmpL] at h1 h2 ⊢
          by_cases e1 : cmpS x y = 0
          · rw [if_pos e1] at h1
            rw [cmpS_ok.eq e1]
            by_cases e2 : cmpS y z = 0
            · rw [if_pos e2] at h2 ⊢; exact ih b c h1 h2
            · rw [if_neg e2] at h2 ⊢; exact h2
          · rw [if_neg e1] at h1
            by_cases e2 : cmpS y z = 0
            · rw [if_pos e2] at h2
              rw [← cmpS_ok.eq e2, if_neg e1]; exact h1
            · rw [if_neg e2] at h2
              have := cmpS_ok.trans h1 h2
              rw [if_neg (by omega)]; exact this
  exact ⟨fun {x y} => eq x y, refl, fun {x y} => gt x y, fun {x y z} => trans x y z⟩

/-- What a last writer is told by. -/
def keyW (x : Va) : Int × Int × List Str := (x.n, x.m, x.s)
theorem writer_lex (x y : Va) : writerI x y = lexC cmpI (lexC cmpI cmpL) (keyW x) (keyW y) := rfl
theorem keyW_ok : Cmp (lexC cmpI (lexC cmpI cmpL)) := lexC_ok cmpI_ok (lexC_ok cmpI_ok cmpL_ok)
theorem writer_zero {y : Va} (h1 : 0 ≤ y.n) (h2 : 0 ≤ y.m) : writerI .zero y ≤ 0 := by
  unfold writerI
  show (if cmpI 0 y.n = 0 then (if cmpI 0 y.m = 0 then cmpL [] y.s else cmpI 0 y.m) else cmpI 0 y.n) ≤ 0
  have c : ∀ {k : Int}, 0 ≤ k → cmpI 0 k ≤ 0 := fun {k} h => by unfold cmpI; split; decide; rw [if_neg (by omega)]; decide
  split
  · split
    · cases y.s <;> simp [cmpL]
    · exact c h2
  · exact c h1
end Go.Proofs.YtdbohojncbeajaaGreat.J5

namespace Go.Proofs.YtdbohojncbeajaaGreat.J5
open C3 (Tk isC isC_out Asc ofC underC cmpC)
open S2 (Tr isT)
open V4 (Va isV botT ApR isT_le)

/-- The clock of a value of clocks. -/
def ckE (x : Va) : List Tk := x.c.headD []
def mapLe (f : Va → Va → Prop) (x y : Va) : Prop := ∀ p ∈ x.s.zip x.v, ∃ q ∈ y.s.zip y.v, q.1 = p.1 ∧ f p.2 q.2
def causeLe (f : Va → Va → Prop) (x y : Va) : Prop := ∀ p ∈ x.c.zip x.v, (∃ q ∈ y.c.zip y.v, cmpC p.1 q.1 = -1) ∨ ∃ q ∈ y.c.zip y.v, q.1 = p.1 ∧ f p.2 q.2

/-- Less, or the same. -/
def leV : Tr → Va → Va → Prop
  | .mk k [], x, y => if k = 3 then ∀ s ∈ x.s, s ∈ y.s else if k = 6 then writerI x y ≤ 0 else if k = 7 then underC (ckE x) (ckE y) = true else x.n ≤ y.n
  | .mk k [a], x, y => if k = 4 then mapLe (leV a) x y else causeLe (leV a) x y
  | .mk _ [a, b], x, y => leV a (halfE x 0) (halfE y 0) ∧ leV b (halfE x 1) (halfE y 1)
  | .mk _ (_ :: _ :: _ :: _), _, _ => False

/-- No number in it is below 0. -/
inductive Nn : Va → Prop
  | mk (n m : Int) (s : List Str) (c : List (List Tk)) (v : List Va) : 0 ≤ n → 0 ≤ m → (∀ k ∈ c, NnC k) → (∀ y ∈ v, Nn y) → Nn (.mk n m s c v)
theorem Nn.out {x : Va} (h : Nn x) : 0 ≤ x.n ∧ 0 ≤ x.m ∧ (∀ k ∈ x.c, NnC k) ∧ ∀ y ∈ x.v, Nn y := by
  cases h with | mk n m s c v h1 h2 h3 h4 => exact ⟨h1, h2, h3, h4⟩
theorem Nn.zero : Nn .zero := .mk _ _ _ _ _ (by decide) (by decide) (fun _ h => by cases h) (fun _ h => by cases h)
theorem Nn.half {x : Va} (h : Nn x) (i : Nat) : Nn (halfE x i) := by
  unfold halfE
  cases e : x.v[i]? with
  | none => exact .zero
  | some y => exact h.out.2.2.2 y (List.mem_of_getElem? e)
theorem Nn.ck {x : Va} (h : Nn x) : NnC (ckE x) := by
  unfold ckE
  cases e : x.c with
  | nil => intro t ht; cases ht
  | cons k l => exact h.out.2.2.1 k (by rw [e]; simp)
theorem leV_num {k : Int} (hk : k = 1 ∨ k = 2) (x y : Va) : leV (.mk k []) x y ↔ x.n ≤ y.n := by rw [leV, if_neg (by omega), if_neg (by omega), if_neg (by omega)]
theorem leV_set (x y : Va) : leV (.mk 3 []) x y ↔ ∀ s ∈ x.s, s ∈ y.s := by rw [leV, if_pos rfl]
theorem leV_last (x y : Va) : leV (.mk 6 []) x y ↔ writerI x y ≤ 0 := by rw [leV, if_neg (by decide), if_pos rfl]
theorem leV_clock (x y : Va) : leV (.mk 7 []) x y ↔ underC (ckE x) (ckE y) = true := by rw [leV, if_neg (by decide), if_neg (by decide), if_pos rfl]
theorem leV_map (a : Tr) (x y : Va) : leV (.mk 4 [a]) x y ↔ mapLe (leV a) x y := by rw [leV, if_pos rfl]
theorem leV_cause (a : Tr) (x y : Va) : leV (.mk 8 [a]) x y ↔ causeLe (leV a) x y := by rw [leV, if_neg (by decide)]
theorem leV_pair (a b : Tr) (x y : Va) : leV (.mk 5 [a, b]) x y ↔ leV a (halfE x 0) (halfE y 0) ∧ leV b (halfE x 1) (halfE y 1) := by rw [leV]

/-- Nothing is less than all. -/
theorem leV_zero : ∀ (n : Nat) (t : Tr), isT n t = true → ∀ y, Nn y → leV t .zero y := by
  intro n
  induction n with
  | zero => intro t h; simp [isT] at h
  | succ n ih =>
    intro t h y hy
    obtain ⟨m, hm, h⟩ := isT_cases h
    obtain rfl : n = m := by omega
    rcases h with ⟨k, hk, rfl⟩ | ⟨k, a, hk, rfl, ha⟩ | ⟨a, b, rfl, ha, hb⟩
    · rcases hk with rfl | rfl | rfl | rfl | rfl
      · exact (leV_num (.inl rfl) _ _).2 hy.out.1
      · exact (leV_num (.inr rfl) _ _).2 hy.out.1
      · exact (leV_set _ _).2 fun s hs => by cases hs
      · exact (leV_last _ _).2 (writer_zero hy.out.1 hy.out.2.1)
      · exact (leV_clock _ _).2 rfl
    · rcases hk with rfl | rfl
      · exact (leV_map _ _ _).2 fun p hp => by cases hp
      · exact (leV_cause _ _ _).2 fun p hp => by cases hp
    · exact (leV_pair _ _ _ _).2 ⟨ih a ha _ (hy.half 0), ih b hb _ (hy.half 1)⟩

theorem botT_of {n : Nat} {t : Tr} (h : isT n t = true) (hn : n ≤ 16) : (botT t = .zero ∧ t.k ≠ 5) ∨ ∃ a b, t = .mk 5 [a, b] ∧ botT t = .mk 0 0 [] [] [botT a, botT b] := by
  have h16 := isT_le h hn
  obtain ⟨m, _, hh⟩ := isT_cases h
  rcases hh with ⟨k, hk, rfl⟩ | ⟨k, a, hk, rfl, ha⟩ | ⟨a, b, rfl, ha, hb⟩
  · exact .inl ⟨V4.botT_zero (by simp only [Tr.k]; omega), by simp only [Tr.k]; omega⟩
  · exact .inl ⟨V4.botT_zero (by simp only [Tr.k]; omega), by simp only [Tr.k]; omega⟩
  · exact .inr ⟨a, b, rfl, V4.botT_pair h16⟩

theorem leV_bot : ∀ (n : Nat) (t : Tr), n ≤ 16 → isT n t = true → ∀ y, Nn y → leV t (botT t) y := by
  intro n
  induction n with
  | zero => intro t _ h; simp [isT] at h
  | succ n ih =>
    intro t hn h y hy
    rcases botT_of h hn with ⟨e, _⟩ | ⟨a, b, rfl, e⟩
    · rw [e]; exact leV_zero _ t h y hy
    · obtain ⟨m, hm, h⟩ := isT_cases h
      obtain rfl : n = m := by omega
      rcases h with ⟨k, _, e2⟩ | ⟨k, _, _, e2, _⟩ | ⟨a', b', e2, ha, hb⟩
      · cases e2
      · cases e2
      · cases e2
        rw [e]
        exact (leV_pair _ _ _ _).2 ⟨ih a (by omega) ha _ (hy.half 0), ih b (by omega) hb _ (hy.half 1)⟩

theorem Nn.bot : ∀ (n : Nat) (t : Tr), n ≤ 16 → isT n t = true → Nn (botT t) := by
  intro n
  induction n with
  | zero => intro t _ h; simp [isT] at h
  | succ n ih =>
    intro t hn h
    rcases botT_of h hn with ⟨e, _⟩ | ⟨a, b, rfl, e⟩
    · rw [e]; exact .zero
    · obtain ⟨m, hm, h⟩ := isT_cases h
      obtain rfl : n = m := by omega
      rcases h with ⟨k, _, e2⟩ | ⟨k, _, _, e2, _⟩ | ⟨a', b', e2, ha, hb⟩
      · cases e2
      · cases e2
      · cases e2
        rw [e]
        refine .mk _ _ _ _ _ (by decide) (by decide) (fun _ h => by cases h) fun y hy => ?_
        simp only [List.mem_cons, List.not_mem_nil, or_false] at hy
        rcases hy with rfl | rfl
        · exact ih a (by omega) ha
        · exact ih b (by omega) hb

theorem isV_bot : ∀ (n : Nat) (t : Tr), n ≤ 16 → isT n t = true → isV t (botT t) = true := by
  intro n
  induction n with
  | zero => intro t _ h; simp [isT] at h
  | succ n ih =>
    intro t hn h
    rcases botT_of h hn with ⟨e, h5⟩ | ⟨a, b, rfl, e⟩
    · rw [e]
      obtain ⟨m, hm, h⟩ := isT_cases h
      rcases h with ⟨k, hk, rfl⟩ | ⟨k, a, hk, rfl, ha⟩ | ⟨a, b, rfl, ha, hb⟩
      · rcases hk with rfl | rfl | rfl | rfl | rfl
        · exact (isV_num (.inl rfl)).2 ⟨0, rfl, by simp⟩
        · exact (isV_num (.inr rfl)).2 ⟨0, rfl, by simp⟩
        · exact isV_set.2 ⟨[], rfl, by simp, by simp, rfl⟩
        · exact isV_last.2 (.inl rfl)
        · exact isV_clock.2 (.inl rfl)
      · rcases hk with rfl | rfl
        · exact isV_map.2 ⟨[], [], rfl, by simp, rfl, by simp, rfl, fun _ h => by cases h⟩
        · exact isV_cause.2 ⟨[], [], rfl, rfl, by simp, by simp, (fun _ h => by cases h), fun _ h => by cases h⟩
      · exact absurd rfl h5
    · obtain ⟨m, hm, h⟩ := isT_cases h
      obtain rfl : n = m := by omega
      rcases h with ⟨k, _, e2⟩ | ⟨k, _, _, e2, _⟩ | ⟨a', b', e2, ha, hb⟩
      · cases e2
      · cases e2
      · cases e2
        rw [e]
        exact isV_pair.2 ⟨_, _, rfl, ih a (by omega) ha, ih b (by omega) hb⟩

/-- Nothing is of each schema but pairs. -/
theorem isV_zero {n : Nat} {t : Tr} (hn : n ≤ 16) (h : isT n t = true) (h5 : t.k ≠ 5) : isV t .zero = true := by
  have := isV_bot n t hn h
  rcases botT_of h hn with ⟨e, _⟩ | ⟨a, b, rfl, e⟩
  · rwa [e] at this
  · exact absurd rfl h5

theorem zip_nn {M : Type} {l : List M} {v : List Va} (h : ∀ y ∈ v, Nn y) {p : M × Va} (hp : p ∈ l.zip v) : Nn p.2 := h _ (List.of_mem_zip hp).2

theorem srt_up {V : Type} {s : List Str} {v : List V} (h : R1.Srt s) (hl : s.length = v.length) : Up cmpS (s.zip v) := by
  have h1 : ((s.zip v).map (·.1)).Pairwise (fun x y => cmpS x y < 0) := by
    rw [List.map_fst_zip (by omega)]
    exact h.imp fun h => by unfold cmpS; rw [if_pos h]; decide
  exact List.pairwise_map.1 h1
theorem apr_up {V : Type} {c : List (List Tk)} {v : List V} (h : c.Pairwise ApR) (hl : c.length = v.length) : Up cmpT (c.zip v) := by
  have h1 : ((c.zip v).map (·.1)).Pairwise (fun x y => cmpT x y < 0) := by
    rw [List.map_fst_zip (by omega)]
    exact h.imp fun h => cmpT_lt.2 h.1
  exact List.pairwise_map.1 h1
theorem zip_inj {M V : Type} {s s' : List M} {v v' : List V} (hl : s.length = v.length) (hl' : s'.length = v'.length) (h : s.zip v = s'.zip v') : s = s' ∧ v = v' := by
  have h1 := congrArg (List.map (·.1)) h
  have h2 := congrArg (List.map (·.2)) h
  rw [List.map_fst_zip (by omega), List.map_fst_zip (by omega)] at h1
  rw [List.map_snd_zip (by omega), List.map_snd_zip (by omega)] at h2
  exact ⟨h1, h2⟩
/-- Of versions none has seen another one. -/
theorem apr_not {c : List (List Tk)} (h : c.Pairwise ApR) {a b : List Tk} (ha : a ∈ c) (hb : b ∈ c) : cmpC a b ≠ -1 := by
  induction c with
  | nil => cases ha
  | cons x c ih =>
    obtain ⟨h1, h2⟩ := List.pairwise_cons.1 h
    rcases List.mem_cons.1 ha with rfl | ha' <;> rcases List.mem_cons.1 hb with rfl | hb'
    · exact cmpC_irrefl _
    · rw [(h1 b hb').2]; decide
    · have := (h1 a ha').2
      unfold cmpC at this ⊢
      cases h3 : C3.underC b a <;> cases h4 : C3.underC a b <;> rw [h3, h4] at this <;> simp [C3.cmpB] at this ⊢
    · exact ih h2 ha' hb'

theorem ck_ok {x : Va} (h : isV (.mk 7 []) x = true) : isC (ckE x) = true ∧ (ckE x = [] → x = .zero) ∧ (ckE x ≠ [] → x = .mk 0 0 [] [ckE x] []) := by
  rcases isV_clock.1 h with rfl | ⟨c, rfl, h1, h2⟩
  · exact ⟨rfl, fun _ => rfl, fun h => absurd rfl h⟩
  · exact ⟨h1, fun h => absurd h h2, fun _ => rfl⟩

theorem leV_antisymm : ∀ (n : Nat) (t : Tr), isT n t = true → ∀ x y, isV t x = true → isV t y = true → Nn x → Nn y → leV t x y → leV t y x → x = y := by
  intro n
  induction n with
  | zero => intro t h; simp [isT] at h
  | succ n ih =>
    intro t h x y vx vy hx hy h1 h2
    obtain ⟨m, hm, h⟩ := isT_cases h
    obtain rfl : n = m := by omega
    rcases h with ⟨k, hk, rfl⟩ | ⟨k, a, hk, rfl, ha⟩ | ⟨a, b, rfl, ha, hb⟩
    · have num : ∀ {k : Int}, k = 1 ∨ k = 2 → isV (.mk k []) x = true → isV (.mk k []) y = true → leV (.mk k []) x y → leV (.mk k []) y x → x = y := fun hk vx vy h1 h2 => by
        obtain ⟨p, rfl, _⟩ := (isV_num hk).1 vx
        obtain ⟨q, rfl, _⟩ := (isV_num hk).1 vy
        rw [leV_num hk] at h1 h2
        simp only [Va.n] at h1 h2
        rw [Int.le_antisymm h1 h2]
      rcases hk with rfl | rfl | rfl | rfl | rfl
      · exact num (.inl rfl) vx vy h1 h2
      · exact num (.inr rfl) vx vy h1 h2
      · obtain ⟨s, rfl, h3, _⟩ := isV_set.1 vx
        obtain ⟨s', rfl, h4, _⟩ := isV_set.1 vy
        rw [leV_set] at h1 h2
        rw [R1.srt_ext h3 h4 fun z => ⟨h1 z, h2 z⟩]
      · rw [leV_last, writer_lex] at h1 h2
        have e := keyW_ok.le_antisymm h1 h2
        have form : ∀ {x : Va}, isV (.mk 6 []) x = true → x = .mk x.n x.m x.s [] [] := fun {x} h => by
          rcases isV_last.1 h with rfl | ⟨_, _, _, rfl, _⟩ <;> rfl
        rw [form vx, form vy]
        unfold keyW at e
        obtain ⟨e1, e2⟩ := Prod.mk.inj e
        obtain ⟨e2, e3⟩ := Prod.mk.inj e2
        rw [e1, e2, e3]
      · rw [leV_clock] at h1 h2
        obtain ⟨a1, a2, a3⟩ := ck_ok vx
        obtain ⟨b1, b2, b3⟩ := ck_ok vy
        have e : ckE x = ckE y := clock_ext a1 b1 fun q => Int.le_antisymm (under_of h1 hy.ck q) (under_of h2 hx.ck q)
        by_cases h0 : ckE x = []
        · rw [a2 h0, b2 (e ▸ h0)]
        · rw [a3 h0, b3 (e ▸ h0), e]
    · rcases hk with rfl | rfl
      · obtain ⟨s, v, rfl, s1, s2, s3, s4, s5⟩ := isV_map.1 vx
        obtain ⟨s', v', rfl, r1, r2, r3, r4, r5⟩ := isV_map.1 vy
        rw [leV_map] at h1 h2
        have sub : ∀ {s s' : List Str} {v v' : List Va}, R1.Srt s → R1.Srt s' → s.length = v.length → s'.length = v'.length → (∀ y ∈ v, isV a y = true ∧ y ≠ botT a) → (∀ y ∈ v', isV a y = true ∧ y ≠ botT a) → (∀ y ∈ v, Nn y) → (∀ y ∈ v', Nn y) → mapLe (leV a) (.mk 0 0 s [] v) (.mk 0 0 s' [] v') → mapLe (leV a) (.mk 0 0 s' [] v') (.mk 0 0 s [] v) → ∀ p, p ∈ s.zip v → p ∈ s'.zip v' :=
          fun {s s' v v'} s1 r1 s2 r2 s5 r5 n1 n2 h1 h2 p hp => by
            obtain ⟨q, hq, e, hl⟩ := h1 p hp
            obtain ⟨r, hr, e2, hl2⟩ := h2 q hq
            have : r = p := up_one cmpS_ok (srt_up s1 s2) hr hp (e2.trans e)
            subst this
            have : r.2 = q.2 := ih a ha _ _ (s5 _ (List.of_mem_zip hp).2).1 (r5 _ (List.of_mem_zip hq).2).1 (zip_nn n1 hp) (zip_nn n2 hq) hl hl2
            have : r = q := Prod.ext e.symm this
            rw [this]; exact hq
        have e := up_ext cmpS_ok (srt_up s1 s2) (srt_up r1 r2) fun p => ⟨sub s1 r1 s2 r2 s5 r5 hx.out.2.2.2 hy.out.2.2.2 h1 h2 p, sub r1 s1 r2 s2 r5 s5 hy.out.2.2.2 hx.out.2.2.2 h2 h1 p⟩
        obtain ⟨e1, e2⟩ := zip_inj s2 r2 e
        rw [e1, e2]
      · obtain ⟨s, v, rfl, s2, s3, s1, s4, s5⟩ := isV_cause.1 vx
        obtain ⟨s', v', rfl, r2, r3, r1, r4, r5⟩ := isV_cause.1 vy
        rw [leV_cause] at h1 h2
        have sub : ∀ {s s' : List (List Tk)} {v v' : List Va}, s.Pairwise ApR → s'.Pairwise ApR → s.length = v.length → s'.length = v'.length → (∀ y ∈ v, isV a y = true) → (∀ y ∈ v', isV a y = true) → Nn (.mk 0 0 [] s v) → Nn (.mk 0 0 [] s' v') → causeLe (leV a) (.mk 0 0 [] s v) (.mk 0 0 [] s' v') → causeLe (leV a) (.mk 0 0 [] s' v') (.mk 0 0 [] s v) → ∀ p, p ∈ s.zip v → p ∈ s'.zip v' :=
          fun {s s' v v'} s1 r1 s2 r2 s5 r5 n1 n2 h1 h2 p hp => by
            rcases h1 p hp with ⟨q, hq, hc⟩ | ⟨q, hq, e, hl⟩
            · rcases h2 q hq with ⟨r, hr, hc2⟩ | ⟨r, hr, e2, _⟩
              · exact absurd (cmpC_trans hc hc2 (n2.out.2.2.1 _ (List.of_mem_zip hq).1) (n1.out.2.2.1 _ (List.of_mem_zip hr).1)) (apr_not s1 (List.of_mem_zip hp).1 (List.of_mem_zip hr).1)
              · exact absurd (by rw [e2]; exact hc) (apr_not s1 (List.of_mem_zip hp).1 (List.of_mem_zip hr).1)
            · rcases h2 q hq with ⟨r, hr, hc2⟩ | ⟨r, hr, e2, hl2⟩
              · exact absurd (by rw [← e]; exact hc2) (apr_not s1 (List.of_mem_zip hp).1 (List.of_mem_zip hr).1)
              · have : r = p := up_one cmpT_ok (apr_up s1 s2) hr hp (e2.trans e)
                subst this
                have : r.2 = q.2 := ih a ha _ _ (s5 _ (List.of_mem_zip hp).2) (r5 _ (List.of_mem_zip hq).2) (zip_nn n1.out.2.2.2 hp) (zip_nn n2.out.2.2.2 hq) hl hl2
                have : r = q := Prod.ext e.symm this
                rw [this]; exact hq
        have e := up_ext cmpT_ok (apr_up s1 s2) (apr_up r1 r2) fun p => ⟨sub s1 r1 s2 r2 s5 r5 hx hy h1 h2 p, sub r1 s1 r2 s2 r5 s5 hy hx h2 h1 p⟩
        obtain ⟨e1, e2⟩ := zip_inj s2 r2 e
        rw [e1, e2]
    · obtain ⟨u, v, rfl, s1, s2⟩ := isV_pair.1 vx
      obtain ⟨u', v', rfl, r1, r2⟩ := isV_pair.1 vy
      rw [leV_pair] at h1 h2
      have e1 : u = u' := ih a ha u u' s1 r1 (hx.half 0) (hy.half 0) h1.1 h2.1
      have e2 : v = v' := ih b hb v v' s2 r2 (hx.half 1) (hy.half 1) h1.2 h2.2
      rw [e1, e2]
theorem leV_refl : ∀ (n : Nat) (t : Tr), isT n t = true → ∀ x, isV t x = true → Nn x → leV t x x := by
  intro n
  induction n with
  | zero => intro t h; simp [isT] at h
  | succ n ih =>
    intro t h x vx hx
    obtain ⟨m, hm, h⟩ := isT_cases h
    obtain rfl : n = m := by omega
    rcases h with ⟨k, hk, rfl⟩ | ⟨k, a, hk, rfl, ha⟩ | ⟨a, b, rfl, ha, hb⟩
    · rcases hk with rfl | rfl | rfl | rfl | rfl
      · exact (leV_num (.inl rfl) _ _).2 (Int.le_refl _)
      · exact (leV_num (.inr rfl) _ _).2 (Int.le_refl _)
      · exact (leV_set _ _).2 fun s hs => hs
      · exact (leV_last _ _).2 (by rw [writer_lex, keyW_ok.refl]; decide)
      · exact (leV_clock _ _).2 (under_refl (isC_out (ck_ok vx).1).2.1)
    · rcases hk with rfl | rfl
      · obtain ⟨s, v, rfl, _, _, _, _, h5⟩ := isV_map.1 vx
        exact (leV_map _ _ _).2 fun p hp => ⟨p, hp, rfl, ih a ha _ (h5 _ (List.of_mem_zip hp).2).1 (zip_nn hx.out.2.2.2 hp)⟩
      · obtain ⟨s, v, rfl, _, _, _, _, h5⟩ := isV_cause.1 vx
        exact (leV_cause _ _ _).2 fun p hp => .inr ⟨p, hp, rfl, ih a ha _ (h5 _ (List.of_mem_zip hp).2) (zip_nn hx.out.2.2.2 hp)⟩
    · obtain ⟨u, v, rfl, s1, s2⟩ := isV_pair.1 vx
      exact (leV_pair _ _ _ _).2 ⟨ih a ha u s1 (hx.half 0), ih b hb v s2 (hx.half 1)⟩
end Go.Proofs.YtdbohojncbeajaaGreat.J5

namespace Go.Proofs.YtdbohojncbeajaaGreat.J5
open C3 (Tk isC isC_out isC_mk Asc ofC underC cmpC mergeC mergeC_nil_left mergeC_nil_right)
open S2 (Tr isT)
open V4 (Va isV botT ApR isT_le shortV)

/-- z is the least that is not less than x, y. -/
structure Lub (t : Tr) (x y z : Va) : Prop where
  is : isV t z = true
  nn : Nn z
  left : leV t x z
  right : leV t y z
  least : ∀ u, isV t u = true → Nn u → leV t x u → leV t y u → leV t z u

/-- Of the schema, or nothing at all. -/
def OkV (t : Tr) (x : Va) : Prop := isV t x = true ∨ x = .zero

theorem zip_parts {M V : Type} : ∀ r : List (M × V), (r.map (·.1)).zip (r.map (·.2)) = r
  | [] => rfl
  | p :: r => by rw [List.map_cons, List.map_cons, List.zip_cons_cons, zip_parts r]

theorem allE_has {M V W : Type} {f : V → V → Option W} : ∀ {l : List (M × V × V)} {r : List (M × W)}, allE f l = some r → ∀ q ∈ l, ∃ w, f q.2.1 q.2.2 = some w
  | [], _, _, q, hq => by cases hq
  | p :: l, r, h, q, hq => by
    rw [allE] at h
    cases hf : f p.2.1 p.2.2 with
    | none => rw [hf] at h; simp at h
    | some v =>
      rw [hf] at h
      cases ha : allE f l with
      | none => rw [ha] at h; simp at h
      | some x =>
        rcases List.mem_cons.1 hq with rfl | hq
        · exact ⟨v, hf⟩
        · exact allE_has ha q hq

/-- There is one that none has seen. -/
theorem top_of {α : Type} {R : α → α → Prop} {P : α → Prop} (ht : ∀ x y z, P x → P y → P z → R x y → R y z → R x z) (hi : ∀ x, ¬ R x x) : ∀ (l : List α) (o : α), P o → (∀ k ∈ l, P k) → ∃ m, (m = o ∨ (m ∈ l ∧ R o m)) ∧ ∀ k ∈ l, ¬ R m k
  | [], o, _, _ => ⟨o, .inl rfl, fun _ h => by cases h⟩
  | k :: l, o, ho, hl => by
    have hk := hl k (by simp)
    have hl' : ∀ j ∈ l, P j := fun j hj => hl j (by simp [hj])
    by_cases h : R o k
    · obtain ⟨m, h1, h2⟩ := top_of ht hi l k hk hl'
      have hm : P m := by rcases h1 with rfl | ⟨h1, _⟩; exact hk; exact hl' m h1
      refine ⟨m, .inr ?_, fun j hj => ?_⟩
      · rcases h1 with rfl | ⟨h1, h3⟩
        · exact ⟨by simp, h⟩
        · exact ⟨by simp [h1], ht _ _ _ ho hk hm h h3⟩
      · rcases List.mem_cons.1 hj with rfl | hj
        · rcases h1 with rfl | ⟨h1, h3⟩
          · exact hi _
          · exact fun h4 => hi _ (ht _ _ _ hk hm hk h3 h4)
        · exact h2 j hj
    · obtain ⟨m, h1, h2⟩ := top_of ht hi l o ho hl'
      have hm : P m := by rcases h1 with rfl | ⟨h1, _⟩; exact ho; exact hl' m h1
      refine ⟨m, ?_, fun j hj => ?_⟩
      · rcases h1 with h1 | ⟨h1, h3⟩
        · exact .inl h1
        · exact .inr ⟨by simp [h1], h3⟩
      · rcases List.mem_cons.1 hj with rfl | hj
        · rcases h1 with rfl | ⟨h1, h3⟩
          · exact h
          · exact fun h4 => h (ht _ _ _ ho hm hk h3 h4)
        · exact h2 j hj

theorem lub_num {k : Int} (hk : k = 1 ∨ k = 2) {x y z : Va} (vx : isV (.mk k []) x = true) (vy : isV (.mk k []) y = true) (hx : Nn x) (hy : Nn y) (h : joinE (.mk k []) x y = some z) : Lub (.mk k []) x y z := by
  rw [joinE, if_neg (by omega), if_neg (by omega), if_neg (by omega)] at h
  obtain rfl := Option.some.inj h
  obtain ⟨p, rfl, h1⟩ := (isV_num hk).1 vx
  obtain ⟨q, rfl, h2⟩ := (isV_num hk).1 vy
  have := hx.out.1
  have := hy.out.1
  simp only [Va.n] at *
  refine ⟨(isV_num hk).2 ⟨_, rfl, fun e => by have := h1 e; have := h2 e; omega⟩, .mk _ _ _ _ _ (by omega) (by decide) (fun _ h => by cases h) (fun _ h => by cases h), (leV_num hk _ _).2 (by simp only [Va.n]; omega), (leV_num hk _ _).2 (by simp only [Va.n]; omega), fun u _ _ h3 h4 => ?_⟩
  rw [leV_num hk] at *
  simp only [Va.n] at *
  omega

theorem lub_set {x y z : Va} (vx : isV (.mk 3 []) x = true) (vy : isV (.mk 3 []) y = true) (h : joinE (.mk 3 []) x y = some z) : Lub (.mk 3 []) x y z := by
  rw [joinE, if_pos rfl] at h
  obtain ⟨s, rfl, a1, a2, a3⟩ := isV_set.1 vx
  obtain ⟨s', rfl, b1, b2, b3⟩ := isV_set.1 vy
  replace h : (if 40 < (R1.bothL s s').length then none else some (Va.mk 0 0 (R1.bothL s s') [] [])) = some z := h
  split at h
  · cases h
  · rename_i hl
    obtain rfl := Option.some.inj h
    refine ⟨isV_set.2 ⟨_, rfl, R1.srt_bothL a1, by omega, ?_⟩, .mk _ _ _ _ _ (by decide) (by decide) (fun _ h => by cases h) (fun _ h => by cases h), (leV_set _ _).2 fun t ht => R1.mem_bothL.2 (.inl ht), (leV_set _ _).2 fun t ht => R1.mem_bothL.2 (.inr ht), fun u _ _ h3 h4 => ?_⟩
    · unfold shortV at *
      refine List.all_eq_true.2 fun t ht => ?_
      rcases R1.mem_bothL.1 ht with h | h
      · exact List.all_eq_true.1 a3 t h
      · exact List.all_eq_true.1 b3 t h
    · rw [leV_set] at *
      intro t ht
      rcases R1.mem_bothL.1 ht with h | h
      · exact h3 t h
      · exact h4 t h

theorem lub_last {x y z : Va} (vx : isV (.mk 6 []) x = true) (vy : isV (.mk 6 []) y = true) (hx : Nn x) (hy : Nn y) (h : joinE (.mk 6 []) x y = some z) : Lub (.mk 6 []) x y z := by
  have form : ∀ {x : Va}, isV (.mk 6 []) x = true → Va.mk x.n x.m x.s [] [] = x := fun {x} h => by
    rcases isV_last.1 h with rfl | ⟨_, _, _, rfl, _⟩ <;> rfl
  rw [joinE, if_neg (by decide), if_pos rfl] at h
  unfold lastE at h
  rw [form vx, form vy] at h
  have refl : ∀ x, leV (.mk 6 []) x x := fun x => (leV_last _ _).2 (by rw [writer_lex, keyW_ok.refl]; decide)
  split at h
  · rename_i hl
    obtain rfl := Option.some.inj h
    exact ⟨vy, hy, (leV_last _ _).2 (by omega), refl _, fun u _ _ _ h4 => h4⟩
  · rename_i hl
    obtain rfl := Option.some.inj h
    refine ⟨vx, hx, refl _, (leV_last _ _).2 ?_, fun u _ _ h3 _ => h3⟩
    rw [writer_lex] at hl ⊢
    rcases Int.lt_or_eq_of_le (show 0 ≤ _ from Int.not_lt.1 hl) with h | h
    · exact Int.le_of_lt (keyW_ok.gt h)
    · rw [keyW_ok.eq h.symm, keyW_ok.refl]; decide

theorem clock_fold {x y : Va} (vx : isV (.mk 7 []) x = true) (vy : isV (.mk 7 []) y = true) : (x.c ++ y.c).foldl mergeC [] = mergeC (ckE x) (ckE y) := by
  rcases isV_clock.1 vx with rfl | ⟨c, rfl, _, _⟩ <;> rcases isV_clock.1 vy with rfl | ⟨d, rfl, _, _⟩ <;> simp [Va.zero, Va.c, ckE, mergeC_nil_left, mergeC_nil_right]

theorem lub_clock {x y z : Va} (vx : isV (.mk 7 []) x = true) (vy : isV (.mk 7 []) y = true) (hx : Nn x) (hy : Nn y) (h : joinE (.mk 7 []) x y = some z) : Lub (.mk 7 []) x y z := by
  rw [joinE, if_neg (by decide), if_neg (by decide), if_pos rfl] at h
  unfold clockE at h
  rw [clock_fold vx vy] at h
  obtain ⟨a1, _, _⟩ := ck_ok vx
  obtain ⟨b1, _, _⟩ := ck_ok vy
  obtain ⟨a1, a2, a3⟩ := isC_out a1
  obtain ⟨b1, b2, b3⟩ := isC_out b1
  have na := hx.ck
  have nb := hy.ck
  have hof := ofC_merge _ _ a2 b2 na nb
  have hasc := merge_asc _ _ a2 b2
  have hz : ckE z = mergeC (ckE x) (ckE y) ∧ isV (.mk 7 []) z = true ∧ Nn z := by
    split at h
    · rename_i h0
      obtain rfl := Option.some.inj h
      exact ⟨h0.symm, isV_clock.2 (.inl rfl), .zero⟩
    · rename_i h0
      split at h
      · cases h
      · rename_i hl
        obtain rfl := Option.some.inj h
        refine ⟨rfl, isV_clock.2 (.inr ⟨_, rfl, isC_mk (by omega) hasc fun t ht => ?_, h0⟩), .mk _ _ _ _ _ (by decide) (by decide) (fun k hk => ?_) (fun _ h => by cases h)⟩
        · rcases mem_merge _ _ ht with h | h
          · exact a3 t h
          · exact b3 t h
        · simp only [List.mem_cons, List.not_mem_nil, or_false] at hk
          subst hk
          intro t ht
          rcases mem_merge _ _ ht with h | h
          · exact na t h
          · exact nb t h
  obtain ⟨z1, z2, z3⟩ := hz
  refine ⟨z2, z3, (leV_clock _ _).2 ?_, (leV_clock _ _).2 ?_, fun u vu nu h3 h4 => ?_⟩
  · rw [z1]; exact under_mk a2 fun q => by rw [hof q]; omega
  · rw [z1]; exact under_mk b2 fun q => by rw [hof q]; omega
  · rw [leV_clock] at *
    rw [z1]
    refine under_mk hasc fun q => ?_
    rw [hof q]
    have := under_of h3 nu.ck q
    have := under_of h4 nu.ck q
    omega

/-- What comes of what stands at each mark. -/
theorem tog_out {M : Type} {f : Va → Va → Option Va} {l : List (M × Va × Va)} {r : List (M × Va)} (h : togE f l = some r) : l.length ≤ 40 ∧ allE f l = some r := by
  unfold togE at h
  split at h
  · cases h
  · exact ⟨by omega, h⟩

theorem lub_map {a : Tr} {n : Nat} (hn : n ≤ 16) (ha : isT n a = true)
    (ih : ∀ x y z, OkV a x → OkV a y → (isV a x = true ∨ isV a y = true) → Nn x → Nn y → joinE a x y = some z → Lub a x y z) {x y z : Va} (vx : isV (.mk 4 [a]) x = true) (vy : isV (.mk 4 [a]) y = true) (hx : Nn x) (hy : Nn y) (h : joinE (.mk 4 [a]) x y = some z) : Lub (.mk 4 [a]) x y z := by
  rw [joinE, if_pos rfl] at h
  unfold mapE at h
  obtain ⟨s, v, rfl, a1, a2, a3, a4, a5⟩ := isV_map.1 vx
  obtain ⟨s', v', rfl, b1, b2, b3, b4, b5⟩ := isV_map.1 vy
  simp only [Va.s, Va.v] at h
  obtain ⟨r, hr, rfl⟩ := Option.map_eq_some_iff.1 h
  obtain ⟨h40, hall⟩ := tog_out hr
  have ux := srt_up a1 a2
  have uy := srt_up b1 b2
  have hmem := mem_mix (z := Va.zero) cmpS_ok _ _ ux uy
  have hmk := togE_marks' hall
  have hup : Up cmpS r := up_of_marks hmk (mix_up (z := Va.zero) cmpS_ok _ _ ux uy)
  have nx := hx.out.2.2.2
  have ny := hy.out.2.2.2
  simp only [Va.v] at nx ny
  -- what stands at a mark
  have part : ∀ q ∈ mix cmpS Va.zero (s.zip v) (s'.zip v'), ∀ w, joinE a q.2.1 q.2.2 = some w → Lub a q.2.1 q.2.2 w ∧ w ≠ botT a ∧ (q.1 ∈ s ∨ q.1 ∈ s') := fun q hq w hw => by
    have bot : ∀ {p w : Va}, isV a p = true → p ≠ botT a → Nn p → leV a p w → w ≠ botT a := fun vp hp np hl e => by
      subst e
      exact hp (leV_antisymm n a ha _ _ vp (isV_bot n a hn ha) np (Nn.bot n a hn ha) hl (leV_bot n a hn ha _ np))
    rcases (hmem q).1 hq with ⟨h1, h2⟩ | ⟨h1, _, h2⟩ | ⟨_, h1, h2⟩
    · have o1 := List.of_mem_zip h1
      have o2 := List.of_mem_zip h2
      have L := ih _ _ _ (.inl (a5 _ o1.2).1) (.inl (b5 _ o2.2).1) (.inl (a5 _ o1.2).1) (nx _ o1.2) (ny _ o2.2) hw
      exact ⟨L, bot (a5 _ o1.2).1 (a5 _ o1.2).2 (nx _ o1.2) L.left, .inl o1.1⟩
    · have o1 := List.of_mem_zip h1
      have L := ih _ _ _ (.inl (a5 _ o1.2).1) (.inr h2) (.inl (a5 _ o1.2).1) (nx _ o1.2) (by rw [h2]; exact .zero) hw
      exact ⟨L, bot (a5 _ o1.2).1 (a5 _ o1.2).2 (nx _ o1.2) L.left, .inl o1.1⟩
    · have o2 := List.of_mem_zip h2
      have L := ih _ _ _ (.inr h1) (.inl (b5 _ o2.2).1) (.inr (b5 _ o2.2).1) (by rw [h1]; exact .zero) (ny _ o2.2) hw
      exact ⟨L, bot (b5 _ o2.2).1 (b5 _ o2.2).2 (ny _ o2.2) L.right, .inr o2.1⟩
  have rel : ∀ p ∈ r, ∃ q ∈ mix cmpS Va.zero (s.zip v) (s'.zip v'), q.1 = p.1 ∧ joinE a q.2.1 q.2.2 = some p.2 := fun p hp => (mem_allE hall p).1 hp
  refine ⟨isV_map.2 ⟨_, _, rfl, ?_, by simp, ?_, ?_, ?_⟩, .mk _ _ _ _ _ (by decide) (by decide) (fun _ h => by cases h) ?_, (leV_map _ _ _).2 ?_, (leV_map _ _ _).2 ?_, fun u vu nu h3 h4 => (leV_map _ _ _).2 ?_⟩
  · refine ((List.pairwise_map (R := fun x y => cmpS x y < 0) (f := fun p : Str × Va => p.1)).2 hup).imp fun {x y} h => ?_
    unfold cmpS at h
    by_cases h1 : x < y
    · exact h1
    · rw [if_neg h1] at h
      split at h <;> omega
  · rw [List.length_map, allE_len hall]; exact h40
  · unfold shortV at *
    refine List.all_eq_true.2 fun t ht => ?_
    obtain ⟨p, hp, rfl⟩ := List.mem_map.1 ht
    obtain ⟨q, hq, e, hw⟩ := rel p hp
    rw [← e]
    rcases (part q hq _ hw).2.2 with h | h
    · exact List.all_eq_true.1 a4 _ h
    · exact List.all_eq_true.1 b4 _ h
  · intro w hw
    obtain ⟨p, hp, rfl⟩ := List.mem_map.1 hw
    obtain ⟨q, hq, _, hw⟩ := rel p hp
    exact ⟨(part q hq _ hw).1.is, (part q hq _ hw).2.1⟩
  · intro w hw
    obtain ⟨p, hp, rfl⟩ := List.mem_map.1 hw
    obtain ⟨q, hq, _, hw⟩ := rel p hp
    exact (part q hq _ hw).1.nn
  · intro p hp
    simp only [Va.s, Va.v] at hp ⊢
    rw [zip_parts]
    obtain ⟨q, hq, e, e2⟩ : ∃ q ∈ mix cmpS Va.zero (s.zip v) (s'.zip v'), q.1 = p.1 ∧ q.2.1 = p.2 := by
      by_cases h : ∃ q ∈ s'.zip v', q.1 = p.1
      · obtain ⟨q, hq, e⟩ := h
        exact ⟨(p.1, p.2, q.2), (hmem _).2 (.inl ⟨hp, by rw [← e]; exact hq⟩), rfl, rfl⟩
      · exact ⟨(p.1, p.2, Va.zero), (hmem _).2 (.inr (.inl ⟨hp, fun q hq e => h ⟨q, hq, e⟩, rfl⟩)), rfl, rfl⟩
    obtain ⟨w, hw⟩ := allE_has hall q hq
    refine ⟨(q.1, w), (mem_allE hall _).2 ⟨q, hq, rfl, hw⟩, e, ?_⟩
    rw [← e2]; exact (part q hq w hw).1.left
  · intro p hp
    simp only [Va.s, Va.v] at hp ⊢
    rw [zip_parts]
    obtain ⟨q, hq, e, e2⟩ : ∃ q ∈ mix cmpS Va.zero (s.zip v) (s'.zip v'), q.1 = p.1 ∧ q.2.2 = p.2 := by
      by_cases h : ∃ q ∈ s.zip v, q.1 = p.1
      · obtain ⟨q, hq, e⟩ := h
        exact ⟨(p.1, q.2, p.2), (hmem _).2 (.inl ⟨by rw [← e]; exact hq, hp⟩), rfl, rfl⟩
      · exact ⟨(p.1, Va.zero, p.2), (hmem _).2 (.inr (.inr ⟨fun q hq e => h ⟨q, hq, e⟩, rfl, hp⟩)), rfl, rfl⟩
    obtain ⟨w, hw⟩ := allE_has hall q hq
    refine ⟨(q.1, w), (mem_allE hall _).2 ⟨q, hq, rfl, hw⟩, e, ?_⟩
    rw [← e2]; exact (part q hq w hw).1.right
  · obtain ⟨su, vu', rfl, u1, u2, u3, u4, u5⟩ := isV_map.1 vu
    have nu' := nu.out.2.2.2
    simp only [Va.v] at nu'
    rw [leV_map] at h3 h4
    intro p hp
    simp only [Va.s, Va.v] at hp ⊢
    rw [zip_parts] at hp
    obtain ⟨q, hq, e, hw⟩ := rel p hp
    have L := (part q hq _ hw).1
    rcases (hmem q).1 hq with ⟨i1, i2⟩ | ⟨i1, _, i2⟩ | ⟨_, i1, i2⟩
    · obtain ⟨t1, ht1, e1, l1⟩ := h3 _ i1
      obtain ⟨t2, ht2, e2, l2⟩ := h4 _ i2
      simp only [Va.s, Va.v] at ht1 ht2
      obtain rfl := up_one cmpS_ok (srt_up u1 u2) ht1 ht2 (e1.trans e2.symm)
      exact ⟨t1, ht1, e1.trans e, L.least _ (u5 _ (List.of_mem_zip ht1).2).1 (nu' _ (List.of_mem_zip ht1).2) l1 l2⟩
    · obtain ⟨t1, ht1, e1, l1⟩ := h3 _ i1
      simp only [Va.s, Va.v] at ht1
      exact ⟨t1, ht1, e1.trans e, L.least _ (u5 _ (List.of_mem_zip ht1).2).1 (nu' _ (List.of_mem_zip ht1).2) l1 (by rw [i2]; exact leV_zero n a ha _ (nu' _ (List.of_mem_zip ht1).2))⟩
    · obtain ⟨t1, ht1, e1, l1⟩ := h4 _ i2
      simp only [Va.s, Va.v] at ht1
      exact ⟨t1, ht1, e1.trans e, L.least _ (u5 _ (List.of_mem_zip ht1).2).1 (nu' _ (List.of_mem_zip ht1).2) (by rw [i1]; exact leV_zero n a ha _ (nu' _ (List.of_mem_zip ht1).2)) l1⟩

theorem lub_cause {a : Tr} {n : Nat} (ha : isT n a = true)
    (ih : ∀ x y z, OkV a x → OkV a y → (isV a x = true ∨ isV a y = true) → Nn x → Nn y → joinE a x y = some z → Lub a x y z) {x y z : Va} (vx : isV (.mk 8 [a]) x = true) (vy : isV (.mk 8 [a]) y = true) (hx : Nn x) (hy : Nn y) (h : joinE (.mk 8 [a]) x y = some z) : Lub (.mk 8 [a]) x y z := by
  rw [joinE, if_neg (by decide)] at h
  unfold causeE at h
  obtain ⟨s, v, rfl, a2, a3, a1, a4, a5⟩ := isV_cause.1 vx
  obtain ⟨s', v', rfl, b2, b3, b1, b4, b5⟩ := isV_cause.1 vy
  simp only [Va.c, Va.v] at h
  obtain ⟨r, hr, rfl⟩ := Option.map_eq_some_iff.1 h
  obtain ⟨h40, hall⟩ := tog_out hr
  have ux := apr_up a1 a2
  have uy := apr_up b1 b2
  have hmem := mem_mix (z := Va.zero) cmpT_ok _ _ ux uy
  have hmk := togE_marks' hall
  have hup : Up cmpT r := up_of_marks hmk ((mix_up (z := Va.zero) cmpT_ok _ _ ux uy).filter _)
  have nx := hx.out.2.2.2
  have ny := hy.out.2.2.2
  have kx := hx.out.2.2.1
  have ky := hy.out.2.2.1
  simp only [Va.v, Va.c] at nx ny kx ky
  have kc : ∀ k ∈ s ++ s', isC k = true ∧ NnC k := fun k hk => by
    rcases List.mem_append.1 hk with h | h
    · exact ⟨a4 k h, kx k h⟩
    · exact ⟨b4 k h, ky k h⟩
  have unseen : ∀ {k : List Tk}, (!seenE k (s ++ s')) = true → ∀ o ∈ s ++ s', cmpC k o ≠ -1 := fun {k} h o ho e => by
    unfold seenE at h
    simp only [Bool.not_eq_true', List.any_eq_false, decide_eq_true_eq] at h
    exact h o ho e
  have toseen : ∀ {k : List Tk}, (∀ o ∈ s ++ s', cmpC k o ≠ -1) → (!seenE k (s ++ s')) = true := fun {k} h => by
    unfold seenE
    simp only [Bool.not_eq_true', List.any_eq_false, decide_eq_true_eq]
    exact h
  -- what stands at a mark
  have part : ∀ q ∈ mix cmpT Va.zero (s.zip v) (s'.zip v'), (∀ w, joinE a q.2.1 q.2.2 = some w → Lub a q.2.1 q.2.2 w) ∧ q.1 ∈ s ++ s' := fun q hq => by
    rcases (hmem q).1 hq with ⟨h1, h2⟩ | ⟨h1, _, h2⟩ | ⟨_, h1, h2⟩
    · have o1 := List.of_mem_zip h1
      have o2 := List.of_mem_zip h2
      exact ⟨fun w hw => ih _ _ _ (.inl (a5 _ o1.2)) (.inl (b5 _ o2.2)) (.inl (a5 _ o1.2)) (nx _ o1.2) (ny _ o2.2) hw, List.mem_append.2 (.inl o1.1)⟩
    · have o1 := List.of_mem_zip h1
      exact ⟨fun w hw => ih _ _ _ (.inl (a5 _ o1.2)) (.inr h2) (.inl (a5 _ o1.2)) (nx _ o1.2) (by rw [h2]; exact .zero) hw, List.mem_append.2 (.inl o1.1)⟩
    · have o2 := List.of_mem_zip h2
      exact ⟨fun w hw => ih _ _ _ (.inr h1) (.inl (b5 _ o2.2)) (.inr (b5 _ o2.2)) (by rw [h1]; exact .zero) (ny _ o2.2) hw, List.mem_append.2 (.inr o2.1)⟩
  have rel : ∀ p ∈ r, ∃ q ∈ mix cmpT Va.zero (s.zip v) (s'.zip v'), q.1 = p.1 ∧ joinE a q.2.1 q.2.2 = some p.2 ∧ ∀ o ∈ s ++ s', cmpC p.1 o ≠ -1 := fun p hp => by
    obtain ⟨q, hq, e, hw⟩ := (mem_allE hall p).1 hp
    obtain ⟨h1, h2⟩ := List.mem_filter.1 hq
    exact ⟨q, h1, e, hw, e ▸ unseen h2⟩
  have mark : ∀ p ∈ r, p.1 ∈ s ++ s' := fun p hp => by
    obtain ⟨q, hq, e, _⟩ := rel p hp
    rw [← e]; exact (part q hq).2
  -- each mark is there
  have lft : ∀ p ∈ s.zip v, ∃ q ∈ mix cmpT Va.zero (s.zip v) (s'.zip v'), q.1 = p.1 ∧ q.2.1 = p.2 := fun p hp => by
    by_cases h : ∃ q ∈ s'.zip v', q.1 = p.1
    · obtain ⟨q, hq, e⟩ := h
      exact ⟨(p.1, p.2, q.2), (hmem _).2 (.inl ⟨hp, by rw [← e]; exact hq⟩), rfl, rfl⟩
    · exact ⟨(p.1, p.2, Va.zero), (hmem _).2 (.inr (.inl ⟨hp, fun q hq e => h ⟨q, hq, e⟩, rfl⟩)), rfl, rfl⟩
  have rgt : ∀ p ∈ s'.zip v', ∃ q ∈ mix cmpT Va.zero (s.zip v) (s'.zip v'), q.1 = p.1 ∧ q.2.2 = p.2 := fun p hp => by
    by_cases h : ∃ q ∈ s.zip v, q.1 = p.1
    · obtain ⟨q, hq, e⟩ := h
      exact ⟨(p.1, q.2, p.2), (hmem _).2 (.inl ⟨by rw [← e]; exact hq, hp⟩), rfl, rfl⟩
    · exact ⟨(p.1, Va.zero, p.2), (hmem _).2 (.inr (.inr ⟨fun q hq e => h ⟨q, hq, e⟩, rfl, hp⟩)), rfl, rfl⟩
  have stays : ∀ q ∈ mix cmpT Va.zero (s.zip v) (s'.zip v'), (∀ o ∈ s ++ s', cmpC q.1 o ≠ -1) → ∃ w, (q.1, w) ∈ r ∧ joinE a q.2.1 q.2.2 = some w := fun q hq hs => by
    have hf := List.mem_filter (p := fun p : List Tk × Va × Va => !seenE p.1 (s ++ s')) |>.2 ⟨hq, toseen hs⟩
    obtain ⟨w, hw⟩ := allE_has hall q hf
    exact ⟨w, (mem_allE hall _).2 ⟨q, hf, rfl, hw⟩, hw⟩
  have memzip : ∀ {s : List (List Tk)} {v : List Va}, s.length = v.length → ∀ k ∈ s, ∃ p ∈ s.zip v, p.1 = k := fun {s v} hl k hk => by
    have : k ∈ (s.zip v).map (·.1) := by rw [List.map_fst_zip (by omega)]; exact hk
    obtain ⟨p, hp, e⟩ := List.mem_map.1 this
    exact ⟨p, hp, e⟩
  have above : ∀ k ∈ s ++ s', (∃ o ∈ s ++ s', cmpC k o = -1) → ∃ p ∈ r, cmpC k p.1 = -1 := fun k hk => by
    rintro ⟨o, ho, hko⟩
    obtain ⟨m, h1, h2⟩ := top_of (R := fun a b => cmpC a b = -1) (P := fun k => k ∈ s ++ s') (fun x y z hx hy hz h1 h2 => cmpC_trans h1 h2 (kc y hy).2 (kc z hz).2) cmpC_irrefl (s ++ s') o ho fun _ h => h
    have hm : m ∈ s ++ s' := by rcases h1 with rfl | ⟨h1, _⟩; exact ho; exact h1
    have hkm : cmpC k m = -1 := by
      rcases h1 with rfl | ⟨_, h1⟩
      · exact hko
      · exact cmpC_trans hko h1 (kc o ho).2 (kc m hm).2
    obtain ⟨q, hq, e⟩ : ∃ q ∈ mix cmpT Va.zero (s.zip v) (s'.zip v'), q.1 = m := by
      rcases List.mem_append.1 hm with h | h
      · obtain ⟨p, hp, e⟩ := memzip a2 m h
        obtain ⟨q, hq, e2, _⟩ := lft p hp
        exact ⟨q, hq, e2.trans e⟩
      · obtain ⟨p, hp, e⟩ := memzip b2 m h
        obtain ⟨q, hq, e2, _⟩ := rgt p hp
        exact ⟨q, hq, e2.trans e⟩
    obtain ⟨w, hw, _⟩ := stays q hq (by rw [e]; exact h2)
    exact ⟨_, hw, by rw [e]; exact hkm⟩
  refine ⟨isV_cause.2 ⟨_, _, rfl, by simp, ?_, ?_, ?_, ?_⟩, .mk _ _ _ _ _ (by decide) (by decide) ?_ ?_, (leV_cause _ _ _).2 ?_, (leV_cause _ _ _).2 ?_, fun u vu nu h3 h4 => (leV_cause _ _ _).2 ?_⟩
  · rw [List.length_map, allE_len hall]; exact h40
  · refine List.pairwise_map.2 (List.Pairwise.imp_of_mem (fun {p q} hp hq h => ?_) hup)
    refine ⟨cmpT_lt.1 h, ?_⟩
    obtain ⟨_, _, _, _, p2⟩ := rel p hp
    obtain ⟨_, _, _, _, q2⟩ := rel q hq
    have c1 := p2 q.1 (mark q hq)
    have c2 := q2 p.1 (mark p hp)
    have hne : p.1 ≠ q.1 := cmpT_ok.ne h
    have c0 : ¬ (underC p.1 q.1 = true ∧ underC q.1 p.1 = true) := fun ⟨h1, h2⟩ =>
      hne (clock_ext (kc _ (mark p hp)).1 (kc _ (mark q hq)).1 fun t => Int.le_antisymm (under_of h1 (kc _ (mark q hq)).2 t) (under_of h2 (kc _ (mark p hp)).2 t))
    unfold cmpC at c1 c2 ⊢
    cases h1 : underC p.1 q.1 <;> cases h2 : underC q.1 p.1 <;> rw [h1, h2] at c0 c1 <;> rw [h1, h2] at c2 <;> simp [C3.cmpB] at c0 c1 c2 ⊢
  · intro k hk
    obtain ⟨p, hp, rfl⟩ := List.mem_map.1 hk
    exact (kc _ (mark p hp)).1
  · intro w hw
    obtain ⟨p, hp, rfl⟩ := List.mem_map.1 hw
    obtain ⟨q, hq, _, hw, _⟩ := rel p hp
    exact ((part q hq).1 _ hw).is
  · intro k hk
    obtain ⟨p, hp, rfl⟩ := List.mem_map.1 hk
    exact (kc _ (mark p hp)).2
  · intro w hw
    obtain ⟨p, hp, rfl⟩ := List.mem_map.1 hw
    obtain ⟨q, hq, _, hw, _⟩ := rel p hp
    exact ((part q hq).1 _ hw).nn
  · intro p hp
    simp only [Va.c, Va.v] at hp ⊢
    rw [zip_parts]
    obtain ⟨q, hq, e, e2⟩ := lft p hp
    by_cases hs : ∃ o ∈ s ++ s', cmpC p.1 o = -1
    · exact .inl (above p.1 (e ▸ (part q hq).2) hs)
    · obtain ⟨w, hw, hj⟩ := stays q hq (by rw [e]; exact fun o ho h => hs ⟨o, ho, h⟩)
      exact .inr ⟨_, hw, e, by rw [← e2]; exact ((part q hq).1 w hj).left⟩
  · intro p hp
    simp only [Va.c, Va.v] at hp ⊢
    rw [zip_parts]
    obtain ⟨q, hq, e, e2⟩ := rgt p hp
    by_cases hs : ∃ o ∈ s ++ s', cmpC p.1 o = -1
    · exact .inl (above p.1 (e ▸ (part q hq).2) hs)
    · obtain ⟨w, hw, hj⟩ := stays q hq (by rw [e]; exact fun o ho h => hs ⟨o, ho, h⟩)
      exact .inr ⟨_, hw, e, by rw [← e2]; exact ((part q hq).1 w hj).right⟩
  · obtain ⟨su, vu', rfl, u2, u3, u1, u4, u5⟩ := isV_cause.1 vu
    have nu' := nu.out.2.2.2
    simp only [Va.v] at nu'
    rw [leV_cause] at h3 h4
    intro p hp
    simp only [Va.c, Va.v] at hp ⊢
    rw [zip_parts] at hp
    obtain ⟨q, hq, e, hw, _⟩ := rel p hp
    have L := (part q hq).1 _ hw
    rw [← e]
    rcases (hmem q).1 hq with ⟨i1, i2⟩ | ⟨i1, _, i2⟩ | ⟨_, i1, i2⟩
    · rcases h3 _ i1 with h | ⟨t1, ht1, e1, l1⟩
      · exact .inl h
      · rcases h4 _ i2 with h | ⟨t2, ht2, e2, l2⟩
        · exact .inl h
        · simp only [Va.c, Va.v] at ht1 ht2
          obtain rfl := up_one cmpT_ok (apr_up u1 u2) ht1 ht2 (e1.trans e2.symm)
          exact .inr ⟨t1, ht1, e1, L.least _ (u5 _ (List.of_mem_zip ht1).2) (nu' _ (List.of_mem_zip ht1).2) l1 l2⟩
    · rcases h3 _ i1 with h | ⟨t1, ht1, e1, l1⟩
      · exact .inl h
      · simp only [Va.c, Va.v] at ht1
        exact .inr ⟨t1, ht1, e1, L.least _ (u5 _ (List.of_mem_zip ht1).2) (nu' _ (List.of_mem_zip ht1).2) l1 (by rw [i2]; exact leV_zero n a ha _ (nu' _ (List.of_mem_zip ht1).2))⟩
    · rcases h4 _ i2 with h | ⟨t1, ht1, e1, l1⟩
      · exact .inl h
      · simp only [Va.c, Va.v] at ht1
        exact .inr ⟨t1, ht1, e1, L.least _ (u5 _ (List.of_mem_zip ht1).2) (nu' _ (List.of_mem_zip ht1).2) (by rw [i1]; exact leV_zero n a ha _ (nu' _ (List.of_mem_zip ht1).2)) l1⟩
/-- Both together: the least that is not less than either. -/
theorem lub_of : ∀ (n : Nat) (t : Tr), n ≤ 16 → isT n t = true → ∀ x y z, OkV t x → OkV t y → (isV t x = true ∨ isV t y = true) → Nn x → Nn y → joinE t x y = some z → Lub t x y z := by
  intro n
  induction n with
  | zero => intro t _ h; simp [isT] at h
  | succ n ih =>
    intro t hn ht x y z ox oy one hx hy h
    obtain ⟨m, hm, hc⟩ := isT_cases ht
    obtain rfl : n = m := by omega
    rcases hc with ⟨k, hk, rfl⟩ | ⟨k, a, hk, rfl, ha⟩ | ⟨a, b, rfl, ha, hb⟩
    · have h5 : (Tr.mk k []).k ≠ 5 := by simp only [Tr.k]; omega
      have all : ∀ {x}, OkV (.mk k []) x → isV (.mk k []) x = true := fun {x} o => o.elim id fun e => e ▸ isV_zero hn ht h5
      have vx := all ox
      have vy := all oy
      rcases hk with rfl | rfl | rfl | rfl | rfl
      · exact lub_num (.inl rfl) vx vy hx hy h
      · exact lub_num (.inr rfl) vx vy hx hy h
      · exact lub_set vx vy h
      · exact lub_last vx vy hx hy h
      · exact lub_clock vx vy hx hy h
    · have h5 : (Tr.mk k [a]).k ≠ 5 := by simp only [Tr.k]; omega
      have all : ∀ {x}, OkV (.mk k [a]) x → isV (.mk k [a]) x = true := fun {x} o => o.elim id fun e => e ▸ isV_zero hn ht h5
      have vx := all ox
      have vy := all oy
      rcases hk with rfl | rfl
      · exact lub_map (by omega) ha (ih a (by omega) ha) vx vy hx hy h
      · exact lub_cause ha (ih a (by omega) ha) vx vy hx hy h
    · rw [joinE] at h
      unfold pairE at h
      obtain ⟨u, hu, h⟩ := Option.bind_eq_some_iff.1 h
      obtain ⟨v, hv, rfl⟩ := Option.map_eq_some_iff.1 h
      have side : ∀ {x}, OkV (.mk 5 [a, b]) x → (OkV a (halfE x 0) ∧ OkV b (halfE x 1)) ∧ (isV (.mk 5 [a, b]) x = true → isV a (halfE x 0) = true ∧ isV b (halfE x 1) = true) := fun {x} o => by
        have f : isV (.mk 5 [a, b]) x = true → isV a (halfE x 0) = true ∧ isV b (halfE x 1) = true := fun h => by
          obtain ⟨p, q, rfl, h1, h2⟩ := isV_pair.1 h
          exact ⟨h1, h2⟩
        refine ⟨?_, f⟩
        rcases o with o | rfl
        · exact ⟨.inl (f o).1, .inl (f o).2⟩
        · exact ⟨.inr rfl, .inr rfl⟩
      have L := ih a (by omega) ha _ _ _ (side ox).1.1 (side oy).1.1 (one.imp (fun h => ((side ox).2 h).1) (fun h => ((side oy).2 h).1)) (hx.half 0) (hy.half 0) hu
      have R := ih b (by omega) hb _ _ _ (side ox).1.2 (side oy).1.2 (one.imp (fun h => ((side ox).2 h).2) (fun h => ((side oy).2 h).2)) (hx.half 1) (hy.half 1) hv
      refine ⟨isV_pair.2 ⟨_, _, rfl, L.is, R.is⟩, .mk _ _ _ _ _ (by decide) (by decide) (fun _ h => by cases h) fun w hw => ?_, (leV_pair _ _ _ _).2 ⟨L.left, R.left⟩, (leV_pair _ _ _ _).2 ⟨L.right, R.right⟩, fun w vw nw h3 h4 => ?_⟩
      · simp only [List.mem_cons, List.not_mem_nil, or_false] at hw
        rcases hw with rfl | rfl
        · exact L.nn
        · exact R.nn
      · rw [leV_pair] at h3 h4 ⊢
        obtain ⟨p, q, rfl, w1, w2⟩ := isV_pair.1 vw
        exact ⟨L.least _ w1 (nw.half 0) h3.1 h4.1, R.least _ w2 (nw.half 1) h3.2 h4.2⟩
end Go.Proofs.YtdbohojncbeajaaGreat.J5

namespace Go.Proofs.YtdbohojncbeajaaGreat.J5
open S2 (Tr isT)
open V4 (Va Vl Ck isV botT)

/-- One more: what comes of it, or the error's number. -/
def stepE (t : Tr) (x v : Va) : Except Int Va := if isV t x = true ∧ isV t v = true then (match joinE t x v with | some z => .ok z | none => .error 13) else .error 14
theorem Nn.of_inp {P : Nat → Prop} {w : World} {x : Vl} (h : x.Inp P w) : Nn x.er := by
  induction h with
  | mk n m sA sc ss cA cc cs vA vc vs h1 h2 _ _ _ _ _ h8 _ _ _ ih =>
    rw [V4.er_mk]
    refine .mk _ _ _ _ _ h1.1 h2.1 (fun k hk => ?_) fun y hy => ?_
    · obtain ⟨c, hc, rfl⟩ := List.mem_map.1 hk
      exact fun t ht => ((h8 c hc).nok t ht).1
    · obtain ⟨z, hz, rfl⟩ := List.mem_map.1 hy
      exact ih z hz
end Go.Proofs.YtdbohojncbeajaaGreat.J5
