/- Texts of two letters that rise, and two rows of them that a call makes side by side: plain mathematics, and memory. No condition. -/
import Derived.Test.YtleejffjnknohaaGreatMo24
import Derived.Test.YtleejffjnknohaaGreatMo04
namespace Go.Proofs.YtleejffjnknohaaGreat.J5
open Go.RowKit Go.Shelf
open C3 (belAl allocB)
open S2 (Tr isT)
open V4 (Va Vl isV shortV)

/-- The texts aa, ab, .. -/
def tn (i : Nat) : Str := [byt (97 + (i : Int) / 26), byt (97 + (i : Int) % 26)]
theorem tn_up : ∀ i, i < 60 → tn i < tn (i + 1) := by decide +kernel

/-- Texts of two letters that rise, all ahead of the k-th one. -/
structure TS (k : Nat) (xs : List Str) : Prop where
  srt : R1.Srt xs
  lt : ∀ x ∈ xs, x < tn k
  sh : ∀ x ∈ xs, x.length = 2
  len : xs.length ≤ 40
theorem TS.nil : TS 0 [] := ⟨.nil, by simp, by simp, by simp⟩
theorem TS.step {k : Nat} {xs : List Str} (h : TS k xs) (hk : k < 60) : TS (k + 1) xs := ⟨h.srt, fun x hx => List.lt_trans (h.lt x hx) (tn_up k hk), h.sh, h.len⟩
theorem TS.app {k : Nat} {xs : List Str} (h : TS k xs) (hk : k < 60) (hl : xs.length < 40) : TS (k + 1) (xs ++ [tn k]) := by
  refine ⟨List.pairwise_append.2 ⟨h.srt, by simp, fun a ha b hb => by rw [List.mem_singleton.1 hb]; exact h.lt a ha⟩, fun x hx => ?_, fun x hx => ?_, by simp; omega⟩
  · rcases List.mem_append.1 hx with hx | hx
    · exact List.lt_trans (h.lt x hx) (tn_up k hk)
    · rw [List.mem_singleton.1 hx]; exact tn_up k hk
  · rcases List.mem_append.1 hx with hx | hx
    · exact h.sh x hx
    · rw [List.mem_singleton.1 hx]; rfl
theorem TS.is {k : Nat} {xs : List Str} (h : TS k xs) : isV (.mk 3 []) (.mk 0 0 xs [] []) = true :=
  isV_set.2 ⟨xs, rfl, h.srt, h.len, List.all_eq_true.2 fun x hx => decide_eq_true (by rw [h.sh x hx]; decide)⟩
theorem js_large {k j : Nat} {xs ys : List Str} (h : TS k xs) (h' : TS j ys) (hl : 40 < (R1.bothL xs ys).length) : joinF (.mk 3 []) (.mk 0 0 xs [] []) (.mk 0 0 ys [] []) = .error 13 := by
  refine joinF_large isT_3 h.is h'.is ?_
  rw [joinE, if_pos rfl]
  exact if_pos hl
theorem js_fits {k j : Nat} {xs ys : List Str} (h : TS k xs) (h' : TS j ys) (hl : ¬ 40 < (R1.bothL xs ys).length) : joinF (.mk 3 []) (.mk 0 0 xs [] []) (.mk 0 0 ys [] []) = .ok (.mk 0 0 (R1.bothL xs ys) [] []) := by
  refine joinF_ok isT_3 h.is h'.is ?_
  rw [joinE, if_pos rfl]
  exact if_neg hl

theorem Blk.grown {W W' : World} {X : Nat} {t : TypeId} {cs : Array Value} {row : Option Nat} (h : Blk W X t cs) (hg : W.grownBy W' row) (hne : some X ≠ row) : Blk W' X t cs := (hg.block X h.lt hne).trans h
theorem own_set {w : World} {base : Nat} {v : Value} {ys : List Str} (h : R1.Own w base v ys) (X i : Nat) (u : Value) (hX : X < base) : R1.Own (w.setCell ⟨X, i, none⟩ u) base v ys :=
  h.kept (row := some X) ⟨rfl, rfl, rfl, by simp, fun k _ hk => Below.heap_setCell _ _ _ _ (by simpa using hk)⟩ (by
    cases hv : v.ownBlock with
    | none => exact .inl rfl
    | some k => exact .inr (by have := (h.lt hv).1; simp; omega))
/-- A value of texts alone. -/
def vlT (A : Option Addr) (c : Nat) (ss : List Str) : Vl := .mk 0 0 A c ss none 0 [] none 0 []
theorem vlT_in {W : World} {A : Option Addr} {c : Nat} {ss : List Str} (hl : Lies W A ss) (h1 : ss.length ≤ c) (h2 : c ≤ maxLen) (h3 : ss.length ≤ 1000) (h4 : ∀ s ∈ ss, s.length ≤ 1000) : (vlT A c ss).In W := by
  refine .mk _ _ _ _ _ _ _ _ _ _ _ (by omega) (by omega) ?_ ⟨h1, h2, by omega⟩ (fun s hs => by have := h4 s hs; unfold maxLen; omega) .nil (by simp [maxLen]) (by simp) .nil (by simp [maxLen]) (by simp)
  rcases hl with rfl | ⟨b, off, rfl, hb, hc⟩
  · exact .nil
  · refine .inr ⟨b, off, rfl, hb, fun i u hu => ?_⟩
    obtain ⟨x, hx, rfl⟩ := R1.cellsOf_get hu
    exact hc i x hx

/-- Two values of texts in boxes X, X + 1, whose rows are the call's own, each in a block of its own. -/
structure JS (U : World) (va vb : Value) (xs ys : List Str) (W : World) : Prop where
  qa : Blk W U.heap.size 32 #[.int .u64 0, .int .u64 0, va, .slice none 0 0, .slice none 0 0]
  qb : Blk W (U.heap.size + 1) 32 #[.int .u64 0, .int .u64 0, vb, .slice none 0 0, .slice none 0 0]
  oa : R1.Own W (U.heap.size + 2) va xs
  ob : R1.Own W (U.heap.size + 2) vb ys
  ne : ∀ k, va.ownBlock = some k → vb.ownBlock ≠ some k
  bel : Below U.heap.size U W
theorem JS.later {U : World} {va vb : Value} {xs ys : List Str} {W W' : World} (h : JS U va vb xs ys W) (hb : Below W.heap.size W W') : JS U va vb xs ys W' :=
  ⟨h.qa.below hb, h.qb.below hb, h.oa.below hb, h.ob.below hb, h.ne, h.bel.trans (hb.mono h.bel.size)⟩
theorem JS.appA {U : World} {va vb v2 : Value} {xs ys zs : List Str} {W W2 : World} (h : JS U va vb xs ys W) (ho : R1.Own W2 (U.heap.size + 2) v2 zs) (hg : W.grownBy W2 va.ownBlock) (hat : v2.ownBlock = va.ownBlock ∨ v2.ownBlock = some W.heap.size) :
    JS U v2 vb zs ys (W2.setCell ⟨U.heap.size, 2, none⟩ v2) := by
  have low : ∀ X, X < U.heap.size + 2 → some X ≠ va.ownBlock := fun X hX e => by have := (h.oa.lt e.symm).1; omega
  refine ⟨(h.qa.grown hg (low _ (by omega))).set 2 v2, (h.qb.grown hg (low _ (by omega))).other (by omega) _ _, own_set ho _ _ _ (by omega), own_set (h.ob.kept hg ?_) _ _ _ (by omega), fun k hk e => ?_, ?_⟩
  · cases hv : vb.ownBlock with
    | none => exact .inl rfl
    | some k => exact .inr fun e => h.ne k e.symm hv
  · rcases hat with e2 | e2
    · exact h.ne k (e2.symm.trans hk) e
    · have := (h.ob.lt e).2
      rw [hk] at e2
      have := Option.some.inj e2
      omega
  · exact (h.bel.grown hg h.bel.size fun k hk => by have := (h.oa.lt hk).1; omega).setCell (by simp) _
theorem JS.appB {U : World} {va vb v2 : Value} {xs ys zs : List Str} {W W2 : World} (h : JS U va vb xs ys W) (ho : R1.Own W2 (U.heap.size + 2) v2 zs) (hg : W.grownBy W2 vb.ownBlock) (hat : v2.ownBlock = vb.ownBlock ∨ v2.ownBlock = some W.heap.size) :
    JS U va v2 xs zs (W2.setCell ⟨U.heap.size + 1, 2, none⟩ v2) := by
  have low : ∀ X, X < U.heap.size + 2 → some X ≠ vb.ownBlock := fun X hX e => by have := (h.ob.lt e.symm).1; omega
  refine ⟨(h.qa.grown hg (low _ (by omega))).other (by omega) _ _, (h.qb.grown hg (low _ (by omega))).set 2 v2, own_set (h.oa.kept hg ?_) _ _ _ (by omega), own_set ho _ _ _ (by omega), fun k hk e => ?_, ?_⟩
  · cases hv : va.ownBlock with
    | none => exact .inl rfl
    | some k => exact .inr fun e => h.ne k hv e.symm
  · rcases hat with e2 | e2
    · exact h.ne k hk (e2.symm.trans e)
    · have := (h.oa.lt hk).2
      rw [e] at e2
      have := Option.some.inj e2
      omega
  · exact (h.bel.grown hg h.bel.size fun k hk => by have := (h.ob.lt hk).1; omega).setCell (by simp) _
/-- Between the rounds of JoinSets: rows of texts ahead of the k-th, the l-th one. -/
def JR (U : World) (k l : Nat) (W : World) : Prop := ∃ va vb xs ys, JS U va vb xs ys W ∧ TS k xs ∧ TS l ys
end Go.Proofs.YtleejffjnknohaaGreat.J5
