/- Clocks and last writers as orders. Plain mathematics. No condition. Values of a schema as an order: less, or the same. Plain mathematics. No condition but that the schema is one. -/
import Derived.Test.YtleejffjnknohaaGreatMj26
namespace Go.Proofs.YtleejffjnknohaaGreat.J5
open C3 (Tk isC isC_out isC_mk Asc ofC ofC_none ofC_mem underC cmpB cmpC cmpI mergeC mergeC_nil_left mergeC_nil_right mergeC_lt mergeC_gt mergeC_eq laterC)
open V4 (Va)

/-- No number of it is below 0. -/
def NnC (l : List Tk) : Prop := ∀ t ∈ l, 0 ≤ t.n

theorem ofC_get (l : List Tk) (q : Int) : (∃ t ∈ l, t.k = q ∧ ofC l q = t.n) ∨ ((∀ t ∈ l, t.k ≠ q) ∧ ofC l q = 0) := by
  induction l with
  | nil => exact .inr ⟨(fun _ h => by cases h), rfl⟩
  | cons x l ih =>
    rw [ofC]
    by_cases h : x.k = q
    · rw [if_pos h]; exact .inl ⟨x, by simp, h, rfl⟩
    · rw [if_neg h]
      rcases ih with ⟨t, h1, h2, h3⟩ | ⟨h1, h2⟩
      · exact .inl ⟨t, by simp [h1], h2, h3⟩
      · refine .inr ⟨fun t ht => ?_, h2⟩
        rcases List.mem_cons.1 ht with rfl | ht
        · exact h
        · exact h1 t ht
theorem ofC_nn {l : List Tk} (h : NnC l) (q : Int) : 0 ≤ ofC l q := by
  rcases ofC_get l q with ⟨t, h1, _, h3⟩ | ⟨_, h2⟩
  · rw [h3]; exact h t h1
  · omega
theorem under_of {a b : List Tk} (h : underC a b = true) (hb : NnC b) (q : Int) : ofC a q ≤ ofC b q := by
  unfold underC at h
  rcases ofC_get a q with ⟨t, h1, h2, h3⟩ | ⟨_, h2⟩
  · have := of_decide_eq_true (List.all_eq_true.1 h t h1)
    rw [h3, ← h2]; exact this
  · rw [h2]; exact ofC_nn hb q
theorem under_mk {a b : List Tk} (ha : Asc a) (h : ∀ q, ofC a q ≤ ofC b q) : underC a b = true := by
  unfold underC
  refine List.all_eq_true.2 fun t ht => decide_eq_true ?_
  have := h t.k
  rwa [ofC_mem ha ht] at this
theorem under_trans {a b c : List Tk} (h1 : underC a b = true) (h2 : underC b c = true) (hc : NnC c) : underC a c = true := by
  unfold underC at h1 ⊢
  refine List.all_eq_true.2 fun t ht => decide_eq_true ?_
  have := of_decide_eq_true (List.all_eq_true.1 h1 t ht)
  have := under_of h2 hc t.k
  omega
theorem under_refl {a : List Tk} (h : Asc a) : underC a a = true := under_mk h fun _ => Int.le_refl _
theorem clock_ext {a b : List Tk} (ha : isC a = true) (hb : isC b = true) (h : ∀ q, ofC a q = ofC b q) : a = b := by
  obtain ⟨_, a1, a2⟩ := isC_out ha
  obtain ⟨_, b1, b2⟩ := isC_out hb
  have mem : ∀ {a b : List Tk}, Asc a → (∀ x ∈ a, 0 ≤ x.k ∧ x.k ≤ 1000000 ∧ x.n ≠ 0) → (∀ q, ofC a q = ofC b q) → ∀ t ∈ a, t ∈ b := fun {a b} ha hz h t ht => by
    have e := h t.k
    rw [ofC_mem ha ht] at e
    rcases ofC_get b t.k with ⟨u, h1, h2, h3⟩ | ⟨_, h2⟩
    · have : u = t := by cases u; cases t; simp at h2 h3 e; simp [h2, e, h3]
      rw [← this]; exact h1
    · exact absurd (e.trans h2) (hz t ht).2.2
  have ext : ∀ {a b : List Tk}, Asc a → Asc b → (∀ t, t ∈ a ↔ t ∈ b) → a = b := fun {a b} ha hb h => by
    have h1 : (a.map fun t => (t.k, t.n)) = b.map fun t => (t.k, t.n) := by
      refine up_ext (c := fun x y : Int => x - y) ⟨fun h => by omega, fun x => by omega, fun h => by omega, fun h1 h2 => by omega⟩ (List.pairwise_map.2 (ha.imp fun h => by simp; omega)) (List.pairwise_map.2 (hb.imp fun h => by simp; omega)) fun p => ?_
      rw [List.mem_map, List.mem_map]
      exact ⟨fun ⟨t, ht, e⟩ => ⟨t, (h t).1 ht, e⟩, fun ⟨t, ht, e⟩ => ⟨t, (h t).2 ht, e⟩⟩
    have h2 := congrArg (fun l : List (Int × Int) => l.map fun p => Tk.mk p.1 p.2) h1
    simpa [Function.comp_def] using h2
  exact ext a1 b1 fun t => ⟨mem a1 a2 h t, mem b1 b2 (fun q => (h q).symm) t⟩

theorem cmpC_lt {a b : List Tk} : cmpC a b = -1 ↔ underC a b = true ∧ underC b a = false := by
  unfold cmpC
  cases underC a b <;> cases underC b a <;> simp [cmpB]
theorem cmpC_trans {a b c : List Tk} (h1 : cmpC a b = -1) (h2 : cmpC b c = -1) (hb : NnC b) (hc : NnC c) : cmpC a c = -1 := by
  rw [cmpC_lt] at *
  refine ⟨under_trans h1.1 h2.1 hc, ?_⟩
  cases h : underC c a with
  | false => rfl
  | true =>
    have := under_trans h h1.1 hb
    rw [h2.2] at this
    cases this
theorem cmpC_irrefl (a : List Tk) : cmpC a a ≠ -1 := by
  rw [Ne, cmpC_lt]
  rintro ⟨h1, h2⟩
  rw [h1] at h2
  cases h2

theorem mem_merge {t : Tk} (a b : List Tk) (h : t ∈ mergeC a b) : t ∈ a ∨ t ∈ b := by
  induction a, b using mergeC.induct with
  | case1 b => rw [mergeC_nil_left] at h; exact .inr h
  | case2 x a => rw [mergeC_nil_right] at h; exact .inl h
  | case3 x a y b hlt ih =>
    rw [mergeC_lt _ _ hlt] at h
    rcases List.mem_cons.1 h with rfl | h
    · exact .inl (by simp)
    · exact (ih h).imp (fun h => by simp [h]) id
  | case4 x a y b hlt hgt ih =>
    rw [mergeC_gt _ _ hgt] at h
    rcases List.mem_cons.1 h with rfl | h
    · exact .inr (by simp)
    · exact (ih h).imp id (fun h => by simp [h])
  | case5 x a y b hlt hgt ih =>
    rw [mergeC_eq _ _ (by omega)] at h
    rcases List.mem_cons.1 h with e | h
    · subst e
      unfold laterC
      split
      · exact .inr (by simp)
      · exact .inl (by simp)
    · exact (ih h).imp (fun h => by simp [h]) (fun h => by simp [h])
theorem merge_asc (a b : List Tk) : Asc a → Asc b → Asc (mergeC a b) := by
  induction a, b using mergeC.induct with
  | case1 b => rw [mergeC_nil_left]; exact fun _ h => h
  | case2 x a => rw [mergeC_nil_right]; exact fun h _ => h
  | case3 x a y b hlt ih =>
    intro ha hb
    obtain ⟨a1, a2⟩ := List.pairwise_cons.1 ha
    obtain ⟨b1, b2⟩ := List.pairwise_cons.1 hb
    rw [mergeC_lt _ _ hlt]
    refine List.pairwise_cons.2 ⟨fun t ht => ?_, ih a2 hb⟩
    rcases mem_merge _ _ ht with h | h
    · exact a1 t h
    · rcases List.mem_cons.1 h with rfl | h
      · exact hlt
      · have := b1 t h; omega
  | case4 x a y b hlt hgt ih =>
    intro ha hb
    obtain ⟨a1, a2⟩ := List.pairwise_cons.1 ha
    obtain ⟨b1, b2⟩ := List.pairwise_cons.1 hb
    rw [mergeC_gt _ _ hgt]
    refine List.pairwise_cons.2 ⟨fun t ht => ?_, ih ha b2⟩
    rcases mem_merge _ _ ht with h | h
    · rcases List.mem_cons.1 h with rfl | h
      · exact hgt
      · have := a1 t h; omega
    · exact b1 t h
  | case5 x a y b hlt hgt ih =>
    intro ha hb
    obtain ⟨a1, a2⟩ := List.pairwise_cons.1 ha
    obtain ⟨b1, b2⟩ := List.pairwise_cons.1 hb
    have e : x.k = y.k := by omega
    rw [mergeC_eq _ _ e]
    refine List.pairwise_cons.2 ⟨fun t ht => ?_, ih a2 b2⟩
    have hk : (laterC x y).k = x.k := by unfold laterC; split; exact e.symm; rfl
    rw [hk]
    rcases mem_merge _ _ ht with h | h
    · exact a1 t h
    · rw [e]; exact b1 t h
theorem ofC_merge (a b : List Tk) : Asc a → Asc b → NnC a → NnC b → ∀ q, ofC (mergeC a b) q = max (ofC a q) (ofC b q) := by
  have low : ∀ {l : List Tk} {q : Int}, (∀ t ∈ l, q < t.k) → ofC l q = 0 := fun {l q} h => ofC_none fun t ht => by have := h t ht; omega
  induction a, b using mergeC.induct with
  | case1 b => intro _ _ _ hb q; rw [mergeC_nil_left, ofC]; have := ofC_nn hb q; omega
  | case2 x a => intro _ _ ha _ q; rw [mergeC_nil_right]; have := ofC_nn ha q; simp only [ofC] at this ⊢; omega
  | case3 x a y b hlt ih =>
    intro ha hb na nb q
    obtain ⟨a1, a2⟩ := List.pairwise_cons.1 ha
    obtain ⟨b1, b2⟩ := List.pairwise_cons.1 hb
    rw [mergeC_lt _ _ hlt, ofC, ih a2 hb (fun t ht => na t (by simp [ht])) nb q]
    by_cases h : x.k = q
    · rw [if_pos h, ofC, if_pos h]
      have : ofC (y :: b) q = 0 := low fun t ht => by
        rcases List.mem_cons.1 ht with rfl | ht
        · omega
        · have := b1 t ht; omega
      rw [this]
      have := na x (by simp); omega
    · rw [if_neg h, ofC.eq_2 q x a, if_neg h]
  | case4 x a y b hlt hgt ih =>
    intro ha hb na nb q
    obtain ⟨a1, a2⟩ := List.pairwise_cons.1 ha
    obtain ⟨b1, b2⟩ := List.pairwise_cons.1 hb
    rw [mergeC_gt _ _ hgt, ofC, ih ha b2 na (fun t ht => nb t (by simp [ht])) q]
    by_cases h : y.k = q
    · rw [if_pos h, ofC.eq_2 q y b, if_pos h]
      have : ofC (x :: a) q = 0 := low fun t ht => by
        rcases List.mem_cons.1 ht with rfl | ht
        · omega
        · have := a1 t ht; omega
      rw [this]
      have := nb y (by simp); omega
    · rw [if_neg h, ofC.eq_2 q y b, if_neg h]
  | case5 x a y b hlt hgt ih =>
    intro ha hb na nb q
    obtain ⟨a1, a2⟩ := List.pairwise_cons.1 ha
    obtain ⟨b1, b2⟩ := List.pairwise_cons.1 hb
    have e : x.k = y.k := by omega
    rw [mergeC_eq _ _ e, ofC, ih a2 b2 (fun t ht => na t (by simp [ht])) (fun t ht => nb t (by simp [ht])) q, ofC.eq_2 q x a, ofC.eq_2 q y b]
    have hk : (laterC x y).k = x.k := by unfold laterC; split; exact e.symm; rfl
    rw [hk, ← e]
    by_cases h : x.k = q
    · rw [if_pos h, if_pos h, if_pos h]
      unfold laterC
      split <;> omega
    · rw [if_neg h, if_neg h, if_neg h]

theorem Cmp.flip {M : Type} {c : M → M → Int} (hc : Cmp c) {x y : M} (h : c x y < 0) : 0 < c y x := by
  rcases Int.lt_trichotomy (c y x) 0 with h1 | h1 | h1
  · have := hc.trans h h1
    rw [hc.refl] at this; omega
  · exact absurd (hc.eq h1).symm (hc.ne h)
  · exact h1
theorem Cmp.le_trans {M : Type} {c : M → M → Int} (hc : Cmp c) {x y z : M} (h1 : c x y ≤ 0) (h2 : c y z ≤ 0) : c x z ≤ 0 := by
  rcases Int.lt_or_eq_of_le h1 with h1 | h1
  · rcases Int.lt_or_eq_of_le h2 with h2 | h2
    · exact Int.le_of_lt (hc.trans h1 h2)
    · rw [← hc.eq h2]; omega
  · rw [hc.eq h1]; exact h2
theorem Cmp.le_antisymm {M : Type} {c : M → M → Int} (hc : Cmp c) {x y : M} (h1 : c x y ≤ 0) (h2 : c y x ≤ 0) : x = y := by
  rcases Int.lt_or_eq_of_le h1 with h1 | h1
  · have := hc.flip h1; omega
  · exact hc.eq h1

/-- First by the one, then by the other. -/
def lexC {A B : Type} (c : A → A → Int) (d : B → B → Int) (x y : A × B) : Int := if c x.1 y.1 = 0 then d x.2 y.2 else c x.1 y.1
theorem lexC_ok {A B : Type} {c : A → A → Int} {d : B → B → Int} (hc : Cmp c) (hd : Cmp d) : Cmp (lexC c d) := by
  refine ⟨fun {x y} h => ?_, fun x => ?_, fun {x y} h => ?_, fun {x y z} h1 h2 => ?_⟩
  · unfold lexC at h
    by_cases h0 : c x.1 y.1 = 0
    · rw [if_pos h0] at h; exact Prod.ext (hc.eq h0) (hd.eq h)
    · rw [if_neg h0] at h; exact absurd h h0
  · unfold lexC; rw [if_pos (hc.refl _)]; exact hd.refl _
  · unfold lexC at h ⊢
    by_cases h0 : c x.1 y.1 = 0
    · rw [if_pos h0] at h
      rw [hc.eq h0, if_pos (hc.refl _)]; exact hd.gt h
    · rw [if_neg h0] at h
      have := hc.gt h
      rw [if_neg (by omega)]; exact this
  · unfold lexC at h1 h2 ⊢
    by_cases e1 : c x.1 y.1 = 0
    · rw [if_pos e1] at h1
      rw [hc.eq e1]
      by_cases e2 : c y.1 z.1 = 0
      · rw [if_pos e2] at h2 ⊢; exact hd.trans h1 h2
      · rw [if_neg e2] at h2 ⊢; exact h2
    · rw [if_neg e1] at h1
      by_cases e2 : c y.1 z.1 = 0
      · rw [if_pos e2] at h2
        rw [← hc.eq e2, if_neg e1]; exact h1
      · rw [if_neg e2] at h2
        have := hc.trans h1 h2
        rw [if_neg (by omega)]; exact this

theorem cmpI_ok : Cmp cmpI := by
  refine ⟨fun {x y} h => ?_, fun x => C3.cmpI_eq x, fun {x y} h => ?_, fun {x y z} h1 h2 => ?_⟩ <;> unfold cmpI at *
  · split at h
    · omega
    · split at h <;> omega
  · split at h
    · omega
    · split at h
      · rw [if_pos (by omega)]; decide
      · omega
  · have e1 : x < y := by
      split at h1
      · assumption
      · split at h1 <;> omega
    have e2 : y < z := by
      split at h2
      · assumption
      · split at h2 <;> omega
    rw [if_pos (by omega)]; decide
theorem cmpL_ok : Cmp cmpL := by
  have eq : ∀ x y : List Str, cmpL x y = 0 → x = y := by
    intro x
    induction x with
    | nil => intro y h; cases y with
      | nil => rfl
      | cons y b => simp [cmpL] at h
    | cons x a ih => intro y h; cases y with
      | nil => simp [cmpL] at h
      | cons y b =>
        rw [cmpL] at h
        by_cases h0 : cmpS x y = 0
        · rw [if_pos h0] at h; rw [cmpS_ok.eq h0, ih b h]
        · rw [if_neg h0] at h; exact absurd h h0
  have refl : ∀ x : List Str, cmpL x x = 0 := by
    intro x
    induction x with
    | nil => rfl
    | cons x a ih => rw [cmpL, if_pos (cmpS_ok.refl _), ih]
  have gt : ∀ x y : List Str, 0 < cmpL x y → cmpL y x < 0 := by
    intro x
    induction x with
    | nil => intro y h; cases y with
      | nil => simp [cmpL] at h
      | cons y b => simp [cmpL] at h
    | cons x a ih => intro y h; cases y with
      | nil => simp [cmpL]
      | cons y b =>
        rw [cmpL] at h ⊢
        by_cases h0 : cmpS x y = 0
        · rw [if_pos h0] at h
          rw [cmpS_ok.eq h0, if_pos (cmpS_ok.refl _)]; exact ih b h
        · rw [if_neg h0] at h
          have := cmpS_ok.gt h
          rw [if_neg (by omega)]; exact this
  have trans : ∀ x y z : List Str, cmpL x y < 0 → cmpL y z < 0 → cmpL x z < 0 := by
    intro x
    induction x with
    | nil => intro y z h1 h2; cases y with
      | nil => simp [cmpL] at h1
      | cons y b => cases z with
        | nil => simp [cmpL] at h2
        | cons z c => simp [cmpL]
    | cons x a ih => intro y z h1 h2; cases y with
      | nil => simp [cmpL] at h1
      | cons y b => cases z with
        | nil => simp [cmpL] at h2
        | cons z c =>
          rw [cmpL] at h1 h2 ⊢
          by_cases e1 : cmpS x y = 0
          · rw [if_pos e1] at h1
            rw [cmpS_ok.eq e1]
            by_cases e2 : cmpS y z = 0
            · rw [if_pos e2] at h2 ⊢; exact ih b c h1 h2
            · rw [if_neg e2] at h2 ⊢; exact h2
          · rw [if_neg e1] at h1
            by_cases e2 : cmpS y z = 0
            · rw [if_pos e2] at h2
              rw [← cmpS_ok.eq e2, if_neg e1]; exact h1
            · rw [if_neg e2] at h2
              have := cmpS_ok.trans h1 h2
              rw [if_neg (by omega)]; exact this
  exact ⟨fun {x y} => eq x y, refl, fun {x y} => gt x y, fun {x y z} => trans x y z⟩

/-- What a last writer is told by. -/
def keyW (x : Va) : Int × Int × List Str := (x.n, x.m, x.s)
theorem writer_lex (x y : Va) : writerI x y = lexC cmpI (lexC cmpI cmpL) (keyW x) (keyW y) := rfl
theorem keyW_ok : Cmp (lexC cmpI (lexC cmpI cmpL)) := lexC_ok cmpI_ok (lexC_ok cmpI_ok cmpL_ok)
theorem writer_zero {y : Va} (h1 : 0 ≤ y.n) (h2 : 0 ≤ y.m) : writerI .zero y ≤ 0 := by
  unfold writerI
  show (if cmpI 0 y.n = 0 then (if cmpI 0 y.m = 0 then cmpL [] y.s else cmpI 0 y.m) else cmpI 0 y.n) ≤ 0
  have c : ∀ {k : Int}, 0 ≤ k → cmpI 0 k ≤ 0 := fun {k} h => by unfold cmpI; split; decide; rw [if_neg (by omega)]; decide
  split
  · split
    · cases y.s <;> simp [cmpL]
    · exact c h2
  · exact c h1
end Go.Proofs.YtleejffjnknohaaGreat.J5

namespace Go.Proofs.YtleejffjnknohaaGreat.J5
open C3 (Tk isC isC_out Asc ofC underC cmpC)
open S2 (Tr isT)
open V4 (Va isV botT ApR isT_le)

/-- The clock of a value of clocks. -/
def ckE (x : Va) : List Tk := x.c.headD []
def mapLe (f : Va → Va → Prop) (x y : Va) : Prop := ∀ p ∈ x.s.zip x.v, ∃ q ∈ y.s.zip y.v, q.1 = p.1 ∧ f p.2 q.2
def causeLe (f : Va → Va → Prop) (x y : Va) : Prop := ∀ p ∈ x.c.zip x.v, (∃ q ∈ y.c.zip y.v, cmpC p.1 q.1 = -1) ∨ ∃ q ∈ y.c.zip y.v, q.1 = p.1 ∧ f p.2 q.2

/-- Less, or the same. -/
def leV : Tr → Va → Va → Prop
  | .mk k [], x, y => if k = 3 then ∀ s ∈ x.s, s ∈ y.s else if k = 6 then writerI x y ≤ 0 else if k = 7 then underC (ckE x) (ckE y) = true else x.n ≤ y.n
  | .mk k [a], x, y => if k = 4 then mapLe (leV a) x y else causeLe (leV a) x y
  | .mk _ [a, b], x, y => leV a (halfE x 0) (halfE y 0) ∧ leV b (halfE x 1) (halfE y 1)
  | .mk _ (_ :: _ :: _ :: _), _, _ => False

/-- No number in it is below 0. -/
inductive Nn : Va → Prop
  | mk (n m : Int) (s : List Str) (c : List (List Tk)) (v : List Va) : 0 ≤ n → 0 ≤ m → (∀ k ∈ c, NnC k) → (∀ y ∈ v, Nn y) → Nn (.mk n m s c v)
theorem Nn.out {x : Va} (h : Nn x) : 0 ≤ x.n ∧ 0 ≤ x.m ∧ (∀ k ∈ x.c, NnC k) ∧ ∀ y ∈ x.v, Nn y := by
  cases h with | mk n m s c v h1 h2 h3 h4 => exact ⟨h1, h2, h3, h4⟩
theorem Nn.zero : Nn .zero := .mk _ _ _ _ _ (by decide) (by decide) (fun _ h => by cases h) (fun _ h => by cases h)
theorem Nn.half {x : Va} (h : Nn x) (i : Nat) : Nn (halfE x i) := by
  unfold halfE
  cases e : x.v[i]? with
  | none => exact .zero
  | some y => exact h.out.2.2.2 y (List.mem_of_getElem? e)
theorem Nn.ck {x : Va} (h : Nn x) : NnC (ckE x) := by
  unfold ckE
  cases e : x.c with
  | nil => intro t ht; cases ht
  | cons k l => exact h.out.2.2.1 k (by rw [e]; simp)
theorem half_zero (i : Nat) : halfE .zero i = .zero := rfl

theorem leV_num {k : Int} (hk : k = 1 ∨ k = 2) (x y : Va) : leV (.mk k []) x y ↔ x.n ≤ y.n := by rw [leV, if_neg (by omega), if_neg (by omega), if_neg (by omega)]
theorem leV_set (x y : Va) : leV (.mk 3 []) x y ↔ ∀ s ∈ x.s, s ∈ y.s := by rw [leV, if_pos rfl]
theorem leV_last (x y : Va) : leV (.mk 6 []) x y ↔ writerI x y ≤ 0 := by rw [leV, if_neg (by decide), if_pos rfl]
theorem leV_clock (x y : Va) : leV (.mk 7 []) x y ↔ underC (ckE x) (ckE y) = true := by rw [leV, if_neg (by decide), if_neg (by decide), if_pos rfl]
theorem leV_map (a : Tr) (x y : Va) : leV (.mk 4 [a]) x y ↔ mapLe (leV a) x y := by rw [leV, if_pos rfl]
theorem leV_cause (a : Tr) (x y : Va) : leV (.mk 8 [a]) x y ↔ causeLe (leV a) x y := by rw [leV, if_neg (by decide)]
theorem leV_pair (a b : Tr) (x y : Va) : leV (.mk 5 [a, b]) x y ↔ leV a (halfE x 0) (halfE y 0) ∧ leV b (halfE x 1) (halfE y 1) := by rw [leV]

/-- Nothing is less than all. -/
theorem leV_zero : ∀ (n : Nat) (t : Tr), isT n t = true → ∀ y, Nn y → leV t .zero y := by
  intro n
  induction n with
  | zero => intro t h; simp [isT] at h
  | succ n ih =>
    intro t h y hy
    obtain ⟨m, hm, h⟩ := isT_cases h
    obtain rfl : n = m := by omega
    rcases h with ⟨k, hk, rfl⟩ | ⟨k, a, hk, rfl, ha⟩ | ⟨a, b, rfl, ha, hb⟩
    · rcases hk with rfl | rfl | rfl | rfl | rfl
      · exact (leV_num (.inl rfl) _ _).2 hy.out.1
      · exact (leV_num (.inr rfl) _ _).2 hy.out.1
      · exact (leV_set _ _).2 fun s hs => by cases hs
      · exact (leV_last _ _).2 (writer_zero hy.out.1 hy.out.2.1)
      · exact (leV_clock _ _).2 rfl
    · rcases hk with rfl | rfl
      · exact (leV_map _ _ _).2 fun p hp => by cases hp
      · exact (leV_cause _ _ _).2 fun p hp => by cases hp
    · exact (leV_pair _ _ _ _).2 ⟨ih a ha _ (hy.half 0), ih b hb _ (hy.half 1)⟩

theorem botT_of {n : Nat} {t : Tr} (h : isT n t = true) (hn : n ≤ 16) : (botT t = .zero ∧ t.k ≠ 5) ∨ ∃ a b, t = .mk 5 [a, b] ∧ botT t = .mk 0 0 [] [] [botT a, botT b] := by
  have h16 := isT_le h hn
  obtain ⟨m, _, hh⟩ := isT_cases h
  rcases hh with ⟨k, hk, rfl⟩ | ⟨k, a, hk, rfl, ha⟩ | ⟨a, b, rfl, ha, hb⟩
  · exact .inl ⟨V4.botT_zero (by simp only [Tr.k]; omega), by simp only [Tr.k]; omega⟩
  · exact .inl ⟨V4.botT_zero (by simp only [Tr.k]; omega), by simp only [Tr.k]; omega⟩
  · exact .inr ⟨a, b, rfl, V4.botT_pair h16⟩

theorem leV_bot : ∀ (n : Nat) (t : Tr), n ≤ 16 → isT n t = true → ∀ y, Nn y → leV t (botT t) y := by
  intro n
  induction n with
  | zero => intro t _ h; simp [isT] at h
  | succ n ih =>
    intro t hn h y hy
    rcases botT_of h hn with ⟨e, _⟩ | ⟨a, b, rfl, e⟩
    · rw [e]; exact leV_zero _ t h y hy
    · obtain ⟨m, hm, h⟩ := isT_cases h
      obtain rfl : n = m := by omega
      rcases h with ⟨k, _, e2⟩ | ⟨k, _, _, e2, _⟩ | ⟨a', b', e2, ha, hb⟩
      · cases e2
      · cases e2
      · cases e2
        rw [e]
        exact (leV_pair _ _ _ _).2 ⟨ih a (by omega) ha _ (hy.half 0), ih b (by omega) hb _ (hy.half 1)⟩

theorem Nn.bot : ∀ (n : Nat) (t : Tr), n ≤ 16 → isT n t = true → Nn (botT t) := by
  intro n
  induction n with
  | zero => intro t _ h; simp [isT] at h
  | succ n ih =>
    intro t hn h
    rcases botT_of h hn with ⟨e, _⟩ | ⟨a, b, rfl, e⟩
    · rw [e]; exact .zero
    · obtain ⟨m, hm, h⟩ := isT_cases h
      obtain rfl : n = m := by omega
      rcases h with ⟨k, _, e2⟩ | ⟨k, _, _, e2, _⟩ | ⟨a', b', e2, ha, hb⟩
      · cases e2
      · cases e2
      · cases e2
        rw [e]
        refine .mk _ _ _ _ _ (by decide) (by decide) (fun _ h => by cases h) fun y hy => ?_
        simp only [List.mem_cons, List.not_mem_nil, or_false] at hy
        rcases hy with rfl | rfl
        · exact ih a (by omega) ha
        · exact ih b (by omega) hb

theorem isV_bot : ∀ (n : Nat) (t : Tr), n ≤ 16 → isT n t = true → isV t (botT t) = true := by
  intro n
  induction n with
  | zero => intro t _ h; simp [isT] at h
  | succ n ih =>
    intro t hn h
    rcases botT_of h hn with ⟨e, h5⟩ | ⟨a, b, rfl, e⟩
    · rw [e]
      obtain ⟨m, hm, h⟩ := isT_cases h
      rcases h with ⟨k, hk, rfl⟩ | ⟨k, a, hk, rfl, ha⟩ | ⟨a, b, rfl, ha, hb⟩
      · rcases hk with rfl | rfl | rfl | rfl | rfl
        · exact (isV_num (.inl rfl)).2 ⟨0, rfl, by simp⟩
        · exact (isV_num (.inr rfl)).2 ⟨0, rfl, by simp⟩
        · exact isV_set.2 ⟨[], rfl, by simp, by simp, rfl⟩
        · exact isV_last.2 (.inl rfl)
        · exact isV_clock.2 (.inl rfl)
      · rcases hk with rfl | rfl
        · exact isV_map.2 ⟨[], [], rfl, by simp, rfl, by simp, rfl, fun _ h => by cases h⟩
        · exact isV_cause.2 ⟨[], [], rfl, rfl, by simp, by simp, (fun _ h => by cases h), fun _ h => by cases h⟩
      · exact absurd rfl h5
    · obtain ⟨m, hm, h⟩ := isT_cases h
      obtain rfl : n = m := by omega
      rcases h with ⟨k, _, e2⟩ | ⟨k, _, _, e2, _⟩ | ⟨a', b', e2, ha, hb⟩
      · cases e2
      · cases e2
      · cases e2
        rw [e]
        exact isV_pair.2 ⟨_, _, rfl, ih a (by omega) ha, ih b (by omega) hb⟩

/-- Nothing is of each schema but pairs. -/
theorem isV_zero {n : Nat} {t : Tr} (hn : n ≤ 16) (h : isT n t = true) (h5 : t.k ≠ 5) : isV t .zero = true := by
  have := isV_bot n t hn h
  rcases botT_of h hn with ⟨e, _⟩ | ⟨a, b, rfl, e⟩
  · rwa [e] at this
  · exact absurd rfl h5

theorem zip_nn {M : Type} {l : List M} {v : List Va} (h : ∀ y ∈ v, Nn y) {p : M × Va} (hp : p ∈ l.zip v) : Nn p.2 := h _ (List.of_mem_zip hp).2

theorem leV_trans : ∀ (n : Nat) (t : Tr), isT n t = true → ∀ x y z, Nn x → Nn y → Nn z → leV t x y → leV t y z → leV t x z := by
  intro n
  induction n with
  | zero => intro t h; simp [isT] at h
  | succ n ih =>
    intro t h x y z hx hy hz h1 h2
    obtain ⟨m, hm, h⟩ := isT_cases h
    obtain rfl : n = m := by omega
    rcases h with ⟨k, hk, rfl⟩ | ⟨k, a, hk, rfl, ha⟩ | ⟨a, b, rfl, ha, hb⟩
    · rcases hk with rfl | rfl | rfl | rfl | rfl
      · rw [leV_num (.inl rfl)] at *; omega
      · rw [leV_num (.inr rfl)] at *; omega
      · rw [leV_set] at *; exact fun s hs => h2 s (h1 s hs)
      · rw [leV_last] at *
        rw [writer_lex] at *
        exact keyW_ok.le_trans h1 h2
      · rw [leV_clock] at *; exact under_trans h1 h2 hz.ck
    · rcases hk with rfl | rfl
      · rw [leV_map] at *
        intro p hp
        obtain ⟨q, hq, e, hl⟩ := h1 p hp
        obtain ⟨r, hr, e2, hl2⟩ := h2 q hq
        exact ⟨r, hr, e2.trans e, ih a ha _ _ _ (zip_nn hx.out.2.2.2 hp) (zip_nn hy.out.2.2.2 hq) (zip_nn hz.out.2.2.2 hr) hl hl2⟩
      · rw [leV_cause] at *
        intro p hp
        rcases h1 p hp with ⟨q, hq, hc⟩ | ⟨q, hq, e, hl⟩
        · rcases h2 q hq with ⟨r, hr, hc2⟩ | ⟨r, hr, e2, _⟩
          · exact .inl ⟨r, hr, cmpC_trans hc hc2 (hy.out.2.2.1 _ (List.of_mem_zip hq).1) (hz.out.2.2.1 _ (List.of_mem_zip hr).1)⟩
          · exact .inl ⟨r, hr, by rw [e2]; exact hc⟩
        · rcases h2 q hq with ⟨r, hr, hc2⟩ | ⟨r, hr, e2, hl2⟩
          · exact .inl ⟨r, hr, by rw [← e]; exact hc2⟩
          · exact .inr ⟨r, hr, e2.trans e, ih a ha _ _ _ (zip_nn hx.out.2.2.2 hp) (zip_nn hy.out.2.2.2 hq) (zip_nn hz.out.2.2.2 hr) hl hl2⟩
    · rw [leV_pair] at *
      exact ⟨ih a ha _ _ _ (hx.half 0) (hy.half 0) (hz.half 0) h1.1 h2.1, ih b hb _ _ _ (hx.half 1) (hy.half 1) (hz.half 1) h1.2 h2.2⟩

theorem srt_up {V : Type} {s : List Str} {v : List V} (h : R1.Srt s) (hl : s.length = v.length) : Up cmpS (s.zip v) := by
  have h1 : ((s.zip v).map (·.1)).Pairwise (fun x y => cmpS x y < 0) := by
    rw [List.map_fst_zip (by omega)]
    exact h.imp fun h => by unfold cmpS; rw [if_pos h]; decide
  exact List.pairwise_map.1 h1
theorem apr_up {V : Type} {c : List (List Tk)} {v : List V} (h : c.Pairwise ApR) (hl : c.length = v.length) : Up cmpT (c.zip v) := by
  have h1 : ((c.zip v).map (·.1)).Pairwise (fun x y => cmpT x y < 0) := by
    rw [List.map_fst_zip (by omega)]
    exact h.imp fun h => cmpT_lt.2 h.1
  exact List.pairwise_map.1 h1
theorem zip_inj {M V : Type} {s s' : List M} {v v' : List V} (hl : s.length = v.length) (hl' : s'.length = v'.length) (h : s.zip v = s'.zip v') : s = s' ∧ v = v' := by
  have h1 := congrArg (List.map (·.1)) h
  have h2 := congrArg (List.map (·.2)) h
  rw [List.map_fst_zip (by omega), List.map_fst_zip (by omega)] at h1
  rw [List.map_snd_zip (by omega), List.map_snd_zip (by omega)] at h2
  exact ⟨h1, h2⟩
/-- Of versions none has seen another one. -/
theorem apr_not {c : List (List Tk)} (h : c.Pairwise ApR) {a b : List Tk} (ha : a ∈ c) (hb : b ∈ c) : cmpC a b ≠ -1 := by
  induction c with
  | nil => cases ha
  | cons x c ih =>
    obtain ⟨h1, h2⟩ := List.pairwise_cons.1 h
    rcases List.mem_cons.1 ha with rfl | ha' <;> rcases List.mem_cons.1 hb with rfl | hb'
    · exact cmpC_irrefl _
    · rw [(h1 b hb').2]; decide
    · have := (h1 a ha').2
      unfold cmpC at this ⊢
      cases h3 : C3.underC b a <;> cases h4 : C3.underC a b <;> rw [h3, h4] at this <;> simp [C3.cmpB] at this ⊢
    · exact ih h2 ha' hb'

theorem ck_ok {x : Va} (h : isV (.mk 7 []) x = true) : isC (ckE x) = true ∧ (ckE x = [] → x = .zero) ∧ (ckE x ≠ [] → x = .mk 0 0 [] [ckE x] []) := by
  rcases isV_clock.1 h with rfl | ⟨c, rfl, h1, h2⟩
  · exact ⟨rfl, fun _ => rfl, fun h => absurd rfl h⟩
  · exact ⟨h1, fun h => absurd h h2, fun _ => rfl⟩

theorem leV_antisymm : ∀ (n : Nat) (t : Tr), isT n t = true → ∀ x y, isV t x = true → isV t y = true → Nn x → Nn y → leV t x y → leV t y x → x = y := by
  intro n
  induction n with
  | zero => intro t h; simp [isT] at h
  | succ n ih =>
    intro t h x y vx vy hx hy h1 h2
    obtain ⟨m, hm, h⟩ := isT_cases h
    obtain rfl : n = m := by omega
    rcases h with ⟨k, hk, rfl⟩ | ⟨k, a, hk, rfl, ha⟩ | ⟨a, b, rfl, ha, hb⟩
    · have num : ∀ {k : Int}, k = 1 ∨ k = 2 → isV (.mk k []) x = true → isV (.mk k []) y = true → leV (.mk k []) x y → leV (.mk k []) y x → x = y := fun hk vx vy h1 h2 => by
        obtain ⟨p, rfl, _⟩ := (isV_num hk).1 vx
        obtain ⟨q, rfl, _⟩ := (isV_num hk).1 vy
        rw [leV_num hk] at h1 h2
        simp only [Va.n] at h1 h2
        rw [Int.le_antisymm h1 h2]
      rcases hk with rfl | rfl | rfl | rfl | rfl
      · exact num (.inl rfl) vx vy h1 h2
      · exact num (.inr rfl) vx vy h1 h2
      · obtain ⟨s, rfl, h3, _⟩ := isV_set.1 vx
        obtain ⟨s', rfl, h4, _⟩ := isV_set.1 vy
        rw [leV_set] at h1 h2
        rw [R1.srt_ext h3 h4 fun z => ⟨h1 z, h2 z⟩]
      · rw [leV_last, writer_lex] at h1 h2
        have e := keyW_ok.le_antisymm h1 h2
        have form : ∀ {x : Va}, isV (.mk 6 []) x = true → x = .mk x.n x.m x.s [] [] := fun {x} h => by
          rcases isV_last.1 h with rfl | ⟨_, _, _, rfl, _⟩ <;> rfl
        rw [form vx, form vy]
        unfold keyW at e
        obtain ⟨e1, e2⟩ := Prod.mk.inj e
        obtain ⟨e2, e3⟩ := Prod.mk.inj e2
        rw [e1, e2, e3]
      · rw [leV_clock] at h1 h2
        obtain ⟨a1, a2, a3⟩ := ck_ok vx
        obtain ⟨b1, b2, b3⟩ := ck_ok vy
        have e : ckE x = ckE y := clock_ext a1 b1 fun q => Int.le_antisymm (under_of h1 hy.ck q) (under_of h2 hx.ck q)
        by_cases h0 : ckE x = []
        · rw [a2 h0, b2 (e ▸ h0)]
        · rw [a3 h0, b3 (e ▸ h0), e]
    · rcases hk with rfl | rfl
      · obtain ⟨s, v, rfl, s1, s2, s3, s4, s5⟩ := isV_map.1 vx
        obtain ⟨s', v', rfl, r1, r2, r3, r4, r5⟩ := isV_map.1 vy
        rw [leV_map] at h1 h2
        have sub : ∀ {s s' : List Str} {v v' : List Va}, R1.Srt s → R1.Srt s' → s.length = v.length → s'.length = v'.length → (∀ y ∈ v, isV a y = true ∧ y ≠ botT a) → (∀ y ∈ v', isV a y = true ∧ y ≠ botT a) → (∀ y ∈ v, Nn y) → (∀ y ∈ v', Nn y) → mapLe (leV a) (.mk 0 0 s [] v) (.mk 0 0 s' [] v') → mapLe (leV a) (.mk 0 0 s' [] v') (.mk 0 0 s [] v) → ∀ p, p ∈ s.zip v → p ∈ s'.zip v' :=
          fun {s s' v v'} s1 r1 s2 r2 s5 r5 n1 n2 h1 h2 p hp => by
            obtain ⟨q, hq, e, hl⟩ := h1 p hp
            obtain ⟨r, hr, e2, hl2⟩ := h2 q hq
            have : r = p := up_one cmpS_ok (srt_up s1 s2) hr hp (e2.trans e)
            subst this
            have : r.2 = q.2 := ih a ha _ _ (s5 _ (List.of_mem_zip hp).2).1 (r5 _ (List.of_mem_zip hq).2).1 (zip_nn n1 hp) (zip_nn n2 hq) hl hl2
            have : r = q := Prod.ext e.symm this
            rw [this]; exact hq
        have e := up_ext cmpS_ok (srt_up s1 s2) (srt_up r1 r2) fun p => ⟨sub s1 r1 s2 r2 s5 r5 hx.out.2.2.2 hy.out.2.2.2 h1 h2 p, sub r1 s1 r2 s2 r5 s5 hy.out.2.2.2 hx.out.2.2.2 h2 h1 p⟩
        obtain ⟨e1, e2⟩ := zip_inj s2 r2 e
        rw [e1, e2]
      · obtain ⟨s, v, rfl, s2, s3, s1, s4, s5⟩ := isV_cause.1 vx
        obtain ⟨s', v', rfl, r2, r3, r1, r4, r5⟩ := isV_cause.1 vy
        rw [leV_cause] at h1 h2
        have sub : ∀ {s s' : List (List Tk)} {v v' : List Va}, s.Pairwise ApR → s'.Pairwise ApR → s.length = v.length → s'.length = v'.length → (∀ y ∈ v, isV a y = true) → (∀ y ∈ v', isV a y = true) → Nn (.mk 0 0 [] s v) → Nn (.mk 0 0 [] s' v') → causeLe (leV a) (.mk 0 0 [] s v) (.mk 0 0 [] s' v') → causeLe (leV a) (.mk 0 0 [] s' v') (.mk 0 0 [] s v) → ∀ p, p ∈ s.zip v → p ∈ s'.zip v' :=
          fun {s s' v v'} s1 r1 s2 r2 s5 r5 n1 n2 h1 h2 p hp => by
            rcases h1 p hp with ⟨q, hq, hc⟩ | ⟨q, hq, e, hl⟩
            · rcases h2 q hq with ⟨r, hr, hc2⟩ | ⟨r, hr, e2, _⟩
              · exact absurd (cmpC_trans hc hc2 (n2.out.2.2.1 _ (List.of_mem_zip hq).1) (n1.out.2.2.1 _ (List.of_mem_zip hr).1)) (apr_not s1 (List.of_mem_zip hp).1 (List.of_mem_zip hr).1)
              · exact absurd (by rw [e2]; exact hc) (apr_not s1 (List.of_mem_zip hp).1 (List.of_mem_zip hr).1)
            · rcases h2 q hq with ⟨r, hr, hc2⟩ | ⟨r, hr, e2, hl2⟩
              · exact absurd (by rw [← e]; exact hc2) (apr_not s1 (List.of_mem_zip hp).1 (List.of_mem_zip hr).1)
              · have : r = p := up_one cmpT_ok (apr_up s1 s2) hr hp (e2.trans e)
                subst this
                have : r.2 = q.2 := ih a ha _ _ (s5 _ (List.of_mem_zip hp).2) (r5 _ (List.of_mem_zip hq).2) (zip_nn n1.out.2.2.2 hp) (zip_nn n2.out.2.2.2 hq) hl hl2
                have : r = q := Prod.ext e.symm this
                rw [this]; exact hq
        have e := up_ext cmpT_ok (apr_up s1 s2) (apr_up r1 r2) fun p => ⟨sub s1 r1 s2 r2 s5 r5 hx hy h1 h2 p, sub r1 s1 r2 s2 r5 s5 hy hx h2 h1 p⟩
        obtain ⟨e1, e2⟩ := zip_inj s2 r2 e
        rw [e1, e2]
    · obtain ⟨u, v, rfl, s1, s2⟩ := isV_pair.1 vx
      obtain ⟨u', v', rfl, r1, r2⟩ := isV_pair.1 vy
      rw [leV_pair] at h1 h2
      have e1 : u = u' := ih a ha u u' s1 r1 (hx.half 0) (hy.half 0) h1.1 h2.1
      have e2 : v = v' := ih b hb v v' s2 r2 (hx.half 1) (hy.half 1) h1.2 h2.2
      rw [e1, e2]
theorem leV_refl : ∀ (n : Nat) (t : Tr), isT n t = true → ∀ x, isV t x = true → Nn x → leV t x x := by
  intro n
  induction n with
  | zero => intro t h; simp [isT] at h
  | succ n ih =>
    intro t h x vx hx
    obtain ⟨m, hm, h⟩ := isT_cases h
    obtain rfl : n = m := by omega
    rcases h with ⟨k, hk, rfl⟩ | ⟨k, a, hk, rfl, ha⟩ | ⟨a, b, rfl, ha, hb⟩
    · rcases hk with rfl | rfl | rfl | rfl | rfl
      · exact (leV_num (.inl rfl) _ _).2 (Int.le_refl _)
      · exact (leV_num (.inr rfl) _ _).2 (Int.le_refl _)
      · exact (leV_set _ _).2 fun s hs => hs
      · exact (leV_last _ _).2 (by rw [writer_lex, keyW_ok.refl]; decide)
      · exact (leV_clock _ _).2 (under_refl (isC_out (ck_ok vx).1).2.1)
    · rcases hk with rfl | rfl
      · obtain ⟨s, v, rfl, _, _, _, _, h5⟩ := isV_map.1 vx
        exact (leV_map _ _ _).2 fun p hp => ⟨p, hp, rfl, ih a ha _ (h5 _ (List.of_mem_zip hp).2).1 (zip_nn hx.out.2.2.2 hp)⟩
      · obtain ⟨s, v, rfl, _, _, _, _, h5⟩ := isV_cause.1 vx
        exact (leV_cause _ _ _).2 fun p hp => .inr ⟨p, hp, rfl, ih a ha _ (h5 _ (List.of_mem_zip hp).2) (zip_nn hx.out.2.2.2 hp)⟩
    · obtain ⟨u, v, rfl, s1, s2⟩ := isV_pair.1 vx
      exact (leV_pair _ _ _ _).2 ⟨ih a ha u s1 (hx.half 0), ih b hb v s2 (hx.half 1)⟩
end Go.Proofs.YtleejffjnknohaaGreat.J5
