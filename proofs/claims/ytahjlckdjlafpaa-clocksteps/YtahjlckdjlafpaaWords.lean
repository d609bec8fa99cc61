/- Words for slices of strings in memory, and small facts on them. No condition. -/
import Derived.WalkKit
import Derived.WalkSpells
import Derived.WalkLawsBesides
import Derived.Deep.QuietTactic
import Derived.BigQuiet
import Derived.Deep.Draws
import Derived.Deep.AppendLies
import Derived.Maps.AppendAt
import Derived.Lib.Hide
import Derived.Lib.Strings
import Derived.Sort.Walk0
import Derived.IntWalk
namespace Go.Proofs.Ytahjlckdjlafpaa
open Go.RowKit

/-- A string's bytes. -/
abbrev Str := List UInt8
/-- The string of those bytes. -/
def S (x : Str) : ByteArray := ⟨x.toArray⟩

@[go_sem] theorem S_toList (x : Str) : (S x).toList = x := by rw [Lib.toList_data]; simp [S]
theorem S_of (s : ByteArray) : ∃ x, s = S x := ⟨s.data.toList, by cases s; simp [S]⟩
theorem S_inj {x y : Str} (h : S x = S y) : x = y := by rw [← S_toList x, h, S_toList]

theorem beq_str {x y : Str} (h : x ≠ y) : (x == y) = false := beq_eq_false_iff_ne.2 h
@[go_sem] theorem beq_refl_str (x : Str) : (x == x) = true := beq_self_eq_true x

/-- The strings xs lie, one behind the other, from A on (where there are any). -/
def Lies (w : World) (A : Option Addr) (xs : List Str) : Prop :=
  xs = [] ∨ ∃ b off, A = some ⟨b, off, none⟩ ∧ b < w.heap.size ∧ ∀ i x, xs[i]? = some x → w.cell? ⟨b, off + i, none⟩ = some (.string (S x))

theorem Lies.nil {w : World} {A : Option Addr} : Lies w A [] := .inl rfl

theorem Lies.get {w : World} {A : Option Addr} {xs : List Str} (h : Lies w A xs) {k : Nat} (hk : k < xs.length) :
    ∃ b off, A = some ⟨b, off, none⟩ ∧ b < w.heap.size ∧ ∀ i x, xs[i]? = some x → w.cell? ⟨b, off + i, none⟩ = some (.string (S x)) := by
  rcases h with h | h
  · subst h; simp at hk
  · exact h

theorem Lies.keep {w w' : World} {A : Option Addr} {xs : List Str} (h : Lies w A xs) (hs : w.heap.size ≤ w'.heap.size)
    (hc : ∀ b o, b < w.heap.size → w'.cell? ⟨b, o, none⟩ = w.cell? ⟨b, o, none⟩) : Lies w' A xs := by
  rcases h with h | ⟨b, off, hA, hb, h⟩
  · exact .inl h
  · exact .inr ⟨b, off, hA, Nat.lt_of_lt_of_le hb hs, fun i x hx => (hc b _ hb).trans (h i x hx)⟩

theorem Lies.below {w w' : World} {A : Option Addr} {xs : List Str} (h : Lies w A xs) (hb : Below w.heap.size w w') : Lies w' A xs :=
  h.keep hb.size fun b o hlt => hb.cell (p := ⟨b, o, none⟩) hlt

theorem Lies.alloc {w : World} {A : Option Addr} {xs : List Str} (h : Lies w A xs) (o : Obj) : Lies (w.alloc o) A xs :=
  h.below ((Below.refl _ _).alloc (Nat.le_refl _) o)

theorem Lies.drewN {w : World} {A : Option Addr} {xs : List Str} (h : Lies w A xs) (n : Nat) : Lies (w.drewN n) A xs := h

theorem below_drewN {B : Nat} {a w : World} (h : Below B a w) (n : Nat) : Below B a (w.drewN n) := ⟨h.os, h.tape, h.output, h.size, h.block⟩

/-- A call that answers the strings ys, in whatever memory, and leaves all that was there. -/
def RetL (w : World) (ys : List Str) (e : Ending) (w' : World) : Prop :=
  ∃ A c, e = .returned (.slice A ys.length c) ∧ ys.length ≤ c ∧ c ≤ maxLen ∧ Lies w' A ys ∧ Below w.heap.size w w'

/-- A call that answers v, and leaves all that was there. -/
def RetV (w : World) (v : Value) (e : Ending) (w' : World) : Prop := e = .returned v ∧ Below w.heap.size w w'

theorem drew2 (w : World) (a b : Nat) : ∃ m, (w.drewN a).drewN b = w.drewN m := ⟨a + b, by rw [World.drewN_drewN]⟩

theorem ret_int {k : IntKind} {a b : Int} (h : a = b) : Ending.returned (.int k a) = .returned (.int k b) := by rw [h]
theorem ret_bool {a b : Bool} (h : a = b) : Ending.returned (.bool a) = .returned (.bool b) := by rw [h]
end Go.Proofs.Ytahjlckdjlafpaa
