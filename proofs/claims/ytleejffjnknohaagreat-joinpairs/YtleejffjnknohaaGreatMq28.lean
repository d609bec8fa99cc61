/- Texts of two letters that rise, and two rows of them that a call makes side by side: plain mathematics, and memory. No condition. -/
import Derived.Test.YtleejffjnknohaaGreatMq27
import Derived.Test.YtleejffjnknohaaGreatMq06
namespace Go.Proofs.YtleejffjnknohaaGreat.J5
open Go.RowKit Go.Shelf
open C3 (belAl allocB)
open S2 (Tr isT)
open V4 (Va Vl isV shortV)

/-- The texts aa, ab, .. -/
def tn (i : Nat) : Str := [byt (97 + (i : Int) / 26), byt (97 + (i : Int) % 26)]
/-- Texts of two letters that rise, all ahead of the k-th one. -/
structure TS (k : Nat) (xs : List Str) : Prop where
  srt : R1.Srt xs
  lt : ∀ x ∈ xs, x < tn k
  sh : ∀ x ∈ xs, x.length = 2
  len : xs.length ≤ 40
theorem TS.nil : TS 0 [] := ⟨.nil, by simp, by simp, by simp⟩
theorem TS.is {k : Nat} {xs : List Str} (h : TS k xs) : isV (.mk 3 []) (.mk 0 0 xs [] []) = true :=
  isV_set.2 ⟨xs, rfl, h.srt, h.len, List.all_eq_true.2 fun x hx => decide_eq_true (by rw [h.sh x hx]; decide)⟩
theorem Blk.grown {W W' : World} {X : Nat} {t : TypeId} {cs : Array Value} {row : Option Nat} (h : Blk W X t cs) (hg : W.grownBy W' row) (hne : some X ≠ row) : Blk W' X t cs := (hg.block X h.lt hne).trans h
/-- A value of texts alone. -/
def vlT (A : Option Addr) (c : Nat) (ss : List Str) : Vl := .mk 0 0 A c ss none 0 [] none 0 []
/-- Two values of texts in boxes X, X + 1, whose rows are the call's own, each in a block of its own. -/
structure JS (U : World) (va vb : Value) (xs ys : List Str) (W : World) : Prop where
  qa : Blk W U.heap.size 32 #[.int .u64 0, .int .u64 0, va, .slice none 0 0, .slice none 0 0]
  qb : Blk W (U.heap.size + 1) 32 #[.int .u64 0, .int .u64 0, vb, .slice none 0 0, .slice none 0 0]
  oa : R1.Own W (U.heap.size + 2) va xs
  ob : R1.Own W (U.heap.size + 2) vb ys
  ne : ∀ k, va.ownBlock = some k → vb.ownBlock ≠ some k
  bel : Below U.heap.size U W
theorem JS.later {U : World} {va vb : Value} {xs ys : List Str} {W W' : World} (h : JS U va vb xs ys W) (hb : Below W.heap.size W W') : JS U va vb xs ys W' :=
  ⟨h.qa.below hb, h.qb.below hb, h.oa.below hb, h.ob.below hb, h.ne, h.bel.trans (hb.mono h.bel.size)⟩
end Go.Proofs.YtleejffjnknohaaGreat.J5
