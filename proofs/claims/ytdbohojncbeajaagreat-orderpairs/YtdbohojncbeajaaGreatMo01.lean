/- Words for slices of strings in memory, and small facts on them. No condition. Clocks as plain lists: what is one, numbers, one more, both, order. No condition. Ticks in memory; rows of ticks that a call owns; append. No condition. What the reference's Of, SameClocks, IsClock do. No condition but that the ticks lie in memory. What the reference's IsClock does. No condition but that the ticks lie in memory. What the reference's under and CmpClocks do. No condition but that the ticks lie in memory. Schemas as trees, and what is told of them: plain mathematics. No condition. Schemas in memory. No condition. -/
import Derived.WalkKit
import Derived.WalkSpells
import Derived.WalkLawsBesides
import Derived.Deep.QuietTactic
import Derived.BigQuiet
import Derived.Deep.Draws
import Derived.Deep.AppendLies
import Derived.Maps.AppendAt
import Derived.Lib.Hide
import Derived.Lib.Strings
import Derived.Sort.Walk0
import Derived.IntWalk
import Derived.Test.YtdbohojncbeajaaGreatRows
import Derived.Deep.RegionLaw
namespace Go.Proofs.YtdbohojncbeajaaGreat
open Go.RowKit

/-- A string's bytes. -/
abbrev Str := List UInt8
/-- The string of those bytes. -/
def S (x : Str) : ByteArray := ⟨x.toArray⟩

@[go_sem] theorem S_toList (x : Str) : (S x).toList = x := by rw [Lib.toList_data]; simp [S]
theorem beq_str {x y : Str} (h : x ≠ y) : (x == y) = false := beq_eq_false_iff_ne.2 h
@[go_sem] theorem beq_refl_str (x : Str) : (x == x) = true := beq_self_eq_true x

/-- The strings xs lie, one behind the other, from A on (where there are any). -/
def Lies (w : World) (A : Option Addr) (xs : List Str) : Prop :=
  xs = [] ∨ ∃ b off, A = some ⟨b, off, none⟩ ∧ b < w.heap.size ∧ ∀ i x, xs[i]? = some x → w.cell? ⟨b, off + i, none⟩ = some (.string (S x))

theorem Lies.nil {w : World} {A : Option Addr} : Lies w A [] := .inl rfl

theorem Lies.get {w : World} {A : Option Addr} {xs : List Str} (h : Lies w A xs) {k : Nat} (hk : k < xs.length) :
    ∃ b off, A = some ⟨b, off, none⟩ ∧ b < w.heap.size ∧ ∀ i x, xs[i]? = some x → w.cell? ⟨b, off + i, none⟩ = some (.string (S x)) := by
  rcases h with h | h
  · subst h; simp at hk
  · exact h

theorem Lies.keep {w w' : World} {A : Option Addr} {xs : List Str} (h : Lies w A xs) (hs : w.heap.size ≤ w'.heap.size)
    (hc : ∀ b o, b < w.heap.size → w'.cell? ⟨b, o, none⟩ = w.cell? ⟨b, o, none⟩) : Lies w' A xs := by
  rcases h with h | ⟨b, off, hA, hb, h⟩
  · exact .inl h
  · exact .inr ⟨b, off, hA, Nat.lt_of_lt_of_le hb hs, fun i x hx => (hc b _ hb).trans (h i x hx)⟩

theorem Lies.below {w w' : World} {A : Option Addr} {xs : List Str} (h : Lies w A xs) (hb : Below w.heap.size w w') : Lies w' A xs :=
  h.keep hb.size fun b o hlt => hb.cell (p := ⟨b, o, none⟩) hlt

theorem Lies.alloc {w : World} {A : Option Addr} {xs : List Str} (h : Lies w A xs) (o : Obj) : Lies (w.alloc o) A xs :=
  h.below ((Below.refl _ _).alloc (Nat.le_refl _) o)

theorem Lies.drewN {w : World} {A : Option Addr} {xs : List Str} (h : Lies w A xs) (n : Nat) : Lies (w.drewN n) A xs := h

theorem below_drewN {B : Nat} {a w : World} (h : Below B a w) (n : Nat) : Below B a (w.drewN n) := ⟨h.os, h.tape, h.output, h.size, h.block⟩

/-- A call that answers v, and leaves all that was there. -/
def RetV (w : World) (v : Value) (e : Ending) (w' : World) : Prop := e = .returned v ∧ Below w.heap.size w w'

theorem drew2 (w : World) (a b : Nat) : ∃ m, (w.drewN a).drewN b = w.drewN m := ⟨a + b, by rw [World.drewN_drewN]⟩

theorem ret_int {k : IntKind} {a b : Int} (h : a = b) : Ending.returned (.int k a) = .returned (.int k b) := by rw [h]
theorem ret_bool {a b : Bool} (h : a = b) : Ending.returned (.bool a) = .returned (.bool b) := by rw [h]
end Go.Proofs.YtdbohojncbeajaaGreat

namespace Go.Proofs.YtdbohojncbeajaaGreat.C3
open Go.RowKit

/-- A tick: who, and how often. -/
structure Tk where
  k : Int
  n : Int
deriving DecidableEq

def Asc (l : List Tk) : Prop := l.Pairwise fun a b => a.k < b.k
instance (l : List Tk) : Decidable (Asc l) := by unfold Asc; infer_instance

/-- A tick that no clock has. -/
def bad (t : Tk) : Bool := decide (t.k < 0) || (decide (1000000 < t.k) || decide (t.n = 0))

def isC (l : List Tk) : Bool := decide (l.length ≤ 40) && (decide (Asc l) && !l.any bad)

def ofC : List Tk → Int → Int
  | [], _ => 0
  | x :: l, q => if x.k = q then x.n else ofC l q

def laterC (x y : Tk) : Tk := if x.n < y.n then y else x

def mergeC : List Tk → List Tk → List Tk
  | [], b => b
  | x :: a, [] => x :: a
  | x :: a, y :: b => if x.k < y.k then x :: mergeC a (y :: b) else if y.k < x.k then y :: mergeC (x :: a) b else laterC x y :: mergeC a b
termination_by a b => a.length + b.length

def underC (a b : List Tk) : Bool := a.all fun t => decide (t.n ≤ ofC b t.k)
def cmpB (x y : Bool) : Int := match x, y with
  | true, true => 0
  | true, false => -1
  | false, true => 1
  | false, false => 2
def cmpC (a b : List Tk) : Int := cmpB (underC a b) (underC b a)

/-- Numbers that a uint64 can be. -/
def Nok (l : List Tk) : Prop := ∀ x ∈ l, 0 ≤ x.n ∧ x.n ≤ 18446744073709551615

theorem mergeC_nil_left (b : List Tk) : mergeC [] b = b := by rw [mergeC]
theorem mergeC_nil_right (a : List Tk) : mergeC a [] = a := by cases a <;> rw [mergeC]
theorem mergeC_lt {x y : Tk} (a b : List Tk) (h : x.k < y.k) : mergeC (x :: a) (y :: b) = x :: mergeC a (y :: b) := by rw [mergeC, if_pos h]
theorem mergeC_gt {x y : Tk} (a b : List Tk) (h : y.k < x.k) : mergeC (x :: a) (y :: b) = y :: mergeC (x :: a) b := by rw [mergeC, if_neg (by omega), if_pos h]
theorem mergeC_eq {x y : Tk} (a b : List Tk) (h : x.k = y.k) : mergeC (x :: a) (y :: b) = laterC x y :: mergeC a b := by rw [mergeC, if_neg (by omega), if_neg (by omega)]

theorem isC_out {l : List Tk} (h : isC l = true) : l.length ≤ 40 ∧ Asc l ∧ ∀ x ∈ l, 0 ≤ x.k ∧ x.k ≤ 1000000 ∧ x.n ≠ 0 := by
  unfold isC at h
  rw [Bool.and_eq_true, Bool.and_eq_true, Bool.not_eq_true'] at h
  refine ⟨of_decide_eq_true h.1, of_decide_eq_true h.2.1, fun x hx => ?_⟩
  have := List.any_eq_false.1 h.2.2 x hx
  unfold bad at this
  rw [Bool.not_eq_true, Bool.or_eq_false_iff, Bool.or_eq_false_iff] at this
  have h1 := of_decide_eq_false this.1
  have h2 := of_decide_eq_false this.2.1
  have h3 := of_decide_eq_false this.2.2
  exact ⟨by omega, by omega, h3⟩

theorem isC_mk {l : List Tk} (h1 : l.length ≤ 40) (h2 : Asc l) (h3 : ∀ x ∈ l, 0 ≤ x.k ∧ x.k ≤ 1000000 ∧ x.n ≠ 0) : isC l = true := by
  unfold isC
  rw [Bool.and_eq_true, Bool.and_eq_true, Bool.not_eq_true']
  refine ⟨decide_eq_true h1, decide_eq_true h2, List.any_eq_false.2 fun x hx => ?_⟩
  obtain ⟨a, b, c⟩ := h3 x hx
  unfold bad
  rw [Bool.not_eq_true, Bool.or_eq_false_iff, Bool.or_eq_false_iff]
  exact ⟨decide_eq_false (by omega), decide_eq_false (by omega), decide_eq_false c⟩

theorem ofC_none {q : Int} : ∀ {l : List Tk}, (∀ x ∈ l, x.k ≠ q) → ofC l q = 0
  | [], _ => rfl
  | x :: l, h => by rw [ofC, if_neg (h x (by simp)), ofC_none fun z hz => h z (by simp [hz])]

theorem ofC_mem {l : List Tk} {x : Tk} (h : Asc l) (hx : x ∈ l) : ofC l x.k = x.n := by
  induction l with
  | nil => cases hx
  | cons y l ih =>
    have hp := List.pairwise_cons.1 h
    rw [ofC]
    rcases List.mem_cons.1 hx with rfl | h'
    · rw [if_pos rfl]
    · rw [if_neg (by have := hp.1 x h'; omega), ih hp.2 h']

theorem mergeC_len (a b : List Tk) : (mergeC a b).length ≤ a.length + b.length := by
  induction a, b using mergeC.induct with
  | case1 b => rw [mergeC_nil_left]; simp
  | case2 x a => rw [mergeC_nil_right]; simp
  | case3 x a y b hlt ih => rw [mergeC_lt _ _ hlt]; simp at ih ⊢; omega
  | case4 x a y b hlt hgt ih => rw [mergeC_gt _ _ hgt]; simp at ih ⊢; omega
  | case5 x a y b hlt hgt ih => rw [mergeC_eq _ _ (by omega)]; simp at ih ⊢; omega
end Go.Proofs.YtdbohojncbeajaaGreat.C3

namespace Go.Proofs.YtdbohojncbeajaaGreat.C3
open Go.RowKit

def Tk.val (t : Tk) : Value := .agg #[.int .i64 t.k, .int .u64 t.n]

/-- The ticks xs lie, one behind the other, from A on (where there are any), below block m. -/
def LiesB (m : Nat) (w : World) (A : Option Addr) (xs : List Tk) : Prop :=
  xs = [] ∨ ∃ b off, A = some ⟨b, off, none⟩ ∧ b < m ∧ ∀ i x, xs[i]? = some x → w.cell? ⟨b, off + i * 2, none⟩ = some (.int .i64 x.k) ∧ w.cell? ⟨b, off + i * 2 + 1, none⟩ = some (.int .u64 x.n)

theorem LiesB.nil {m : Nat} {w : World} {A : Option Addr} : LiesB m w A [] := .inl rfl

theorem LiesB.get {m : Nat} {w : World} {A : Option Addr} {xs : List Tk} (h : LiesB m w A xs) {k : Nat} (hk : k < xs.length) :
    ∃ b off, A = some ⟨b, off, none⟩ ∧ b < m ∧ ∀ i x, xs[i]? = some x → w.cell? ⟨b, off + i * 2, none⟩ = some (.int .i64 x.k) ∧ w.cell? ⟨b, off + i * 2 + 1, none⟩ = some (.int .u64 x.n) := by
  rcases h with h | h
  · subst h; simp at hk
  · exact h

theorem LiesB.keep {m : Nat} {w w' : World} {A : Option Addr} {xs : List Tk} (h : LiesB m w A xs) (hb : ∀ b, b < m → w'.heap[b]? = w.heap[b]?) : LiesB m w' A xs := by
  rcases h with h | ⟨b, off, hA, hlt, h⟩
  · exact .inl h
  · exact .inr ⟨b, off, hA, hlt, fun i x hx => ⟨(World.cell?_of_block (a := ⟨b, _, none⟩) (hb b hlt)).trans (h i x hx).1, (World.cell?_of_block (a := ⟨b, _, none⟩) (hb b hlt)).trans (h i x hx).2⟩⟩
theorem LiesB.below {m : Nat} {w w' : World} {A : Option Addr} {xs : List Tk} (h : LiesB m w A xs) (hb : Below m w w') : LiesB m w' A xs := h.keep fun b hlt => hb.block b hlt
theorem LiesB.up {m n : Nat} {w : World} {A : Option Addr} {xs : List Tk} (h : LiesB m w A xs) (hm : m ≤ n) : LiesB n w A xs := by
  rcases h with h | ⟨b, off, hA, hlt, h⟩
  · exact .inl h
  · exact .inr ⟨b, off, hA, Nat.lt_of_lt_of_le hlt hm, h⟩
/-- In a later world, whatever was there is as it was. -/
theorem LiesB.later {w w' : World} {A : Option Addr} {xs : List Tk} (h : LiesB w.heap.size w A xs) (hb : Below w.heap.size w w') : LiesB w'.heap.size w' A xs := (h.below hb).up hb.size
theorem LiesB.one {m b : Nat} {w : World} {x : Tk} (hm : b < m) (h0 : w.cell? ⟨b, 0, none⟩ = some (.int .i64 x.k)) (h1 : w.cell? ⟨b, 1, none⟩ = some (.int .u64 x.n)) : LiesB m w (some ⟨b, 0, none⟩) [x] := by
  refine .inr ⟨b, 0, rfl, hm, fun i y hy => ?_⟩
  match i, hy with
  | 0, hy => simp at hy; subst hy; exact ⟨h0, h1⟩

/-- What is behind the first one. -/
theorem LiesB.tail {m b off : Nat} {w : World} {x : Tk} {xs : List Tk} (h : LiesB m w (some ⟨b, off, none⟩) (x :: xs)) : LiesB m w (some ⟨b, off + 2, none⟩) xs := by
  rcases h with h | ⟨b', off', hA, hlt, h⟩
  · cases h
  · cases hA
    refine .inr ⟨b, off + 2, rfl, hlt, fun i y hy => ?_⟩
    have := h (i + 1) y (by simpa using hy)
    rw [show off + (i + 1) * 2 = off + 2 + i * 2 by omega] at this
    exact this

theorem belAl {w w' : World} {o : Obj} (h : Below w.heap.size w w') : Below w.heap.size w (w'.alloc o) := h.alloc h.size o
theorem allocB (w : World) (o : Obj) : Below w.heap.size w (w.alloc o) := (Below.refl _ w).alloc (Nat.le_refl _) o
theorem drewB (w : World) : Below w.heap.size w w.drew := (Below.refl _ _).drew

/-- A clock that lies in w: where, its capacity. -/
structure In (w : World) (A : Option Addr) (c : Nat) (xs : List Tk) : Prop where
  lies : LiesB w.heap.size w A xs
  cap : xs.length ≤ c
  top : c ≤ maxLen
  nok : Nok xs

theorem In.later {w w' : World} {A : Option Addr} {c : Nat} {xs : List Tk} (h : In w A c xs) (hb : Below w.heap.size w w') : In w' A c xs := ⟨h.lies.later hb, h.cap, h.top, h.nok⟩
theorem In.nil (w : World) : In w none 0 [] := ⟨.nil, Nat.le_refl _, by simp [maxLen], fun x hx => by cases hx⟩

/-- A call that answers the ticks ys, and leaves all that was there. -/
def RetT (w : World) (ys : List Tk) (e : Ending) (w' : World) : Prop :=
  ∃ A c, e = .returned (.slice A ys.length c) ∧ In w' A c ys ∧ Below w.heap.size w w'

/-- The cells that hold the ticks. -/
def cellsT (xs : List Tk) : List Value := xs.flatMap fun x => [.int .i64 x.k, .int .u64 x.n]

theorem cellsT_len (xs : List Tk) : (cellsT xs).length = xs.length * 2 := by
  induction xs with
  | nil => rfl
  | cons x xs ih => simp only [cellsT, List.flatMap_cons, List.length_append, List.length_cons, List.length_nil] at ih ⊢; omega

theorem cellsT_append (xs ys : List Tk) : cellsT (xs ++ ys) = cellsT xs ++ cellsT ys := by simp [cellsT]
theorem cellsT_at {xs : List Tk} {i : Nat} {x : Tk} (h : xs[i]? = some x) : (cellsT xs)[i * 2]? = some (.int .i64 x.k) ∧ (cellsT xs)[i * 2 + 1]? = some (.int .u64 x.n) := by
  induction xs generalizing i with
  | nil => simp at h
  | cons y xs ih =>
    cases i with
    | zero => simp at h; subst h; simp [cellsT]
    | succ i =>
      have := ih (i := i) (by simpa using h)
      have e : (i + 1) * 2 = i * 2 + 1 + 1 := by omega
      rw [e]
      simpa [cellsT] using this

theorem cellsT_one {xs : List Tk} : ∀ u ∈ cellsT xs, u.oneCell' = true := by
  intro u hu
  obtain ⟨x, _, hx⟩ := List.mem_flatMap.1 hu
  simp at hx
  rcases hx with rfl | rfl <;> rfl

/-- The cells of ticks that lie in memory. -/
theorem LiesB.cells {m b off : Nat} {w : World} : ∀ {xs : List Tk}, LiesB m w (some ⟨b, off, none⟩) xs → ∀ j u, (cellsT xs)[j]? = some u → w.cell? ((⟨b, off, none⟩ : Addr).add j) = some u := by
  intro xs h j u hu
  rcases h with h | ⟨b', off', hA, hlt, h⟩
  · subst h; simp [cellsT] at hu
  · cases hA
    have hj : j < xs.length * 2 := by rw [← cellsT_len]; exact (List.getElem?_eq_some_iff.1 hu).1
    obtain ⟨x, hx⟩ : ∃ x, xs[j / 2]? = some x := ⟨_, List.getElem?_eq_getElem (by omega)⟩
    obtain ⟨h0, h1⟩ := h _ x hx
    obtain ⟨g0, g1⟩ := cellsT_at hx
    rw [Addr.add_lit]
    rcases Nat.mod_two_eq_zero_or_one j with e | e
    · have ej : j / 2 * 2 = j := by omega
      rw [ej] at g0 h0
      rw [g0] at hu
      rw [h0]
      exact hu
    · have ej : j / 2 * 2 + 1 = j := by omega
      rw [Nat.add_assoc, ej] at h1
      rw [ej] at g1
      rw [g1] at hu
      rw [h1]
      exact hu

/-- The value v is a slice of the call's own (from block 'base' on), or nil, and holds the ticks ys. -/
def OwnT (w : World) (base : Nat) (v : Value) (ys : List Tk) : Prop := w.ownsRow base 60 2 v ys.length (cellsT ys)

theorem OwnT.nil (w : World) (base : Nat) : OwnT w base (.slice none 0 0) [] := World.ownsRow_nil w base _ _

theorem OwnT.form {w : World} {base : Nat} {v : Value} {ys : List Tk} (h : OwnT w base v ys) (hn : Nok ys) : ∃ A c, v = .slice A ys.length c ∧ In w A c ys := by
  rcases h.2 with ⟨rfl, h0⟩ | ⟨g, cap, cur, rfl, hb, hg, hnc, hcm, hcs, ht⟩
  · have : ys = [] := List.eq_nil_of_length_eq_zero h0
    subst this
    exact ⟨none, 0, rfl, In.nil w⟩
  · have hlt : g < w.heap.size := (Array.getElem?_eq_some_iff.1 hg).1
    refine ⟨_, cap, rfl, .inr ⟨g, 0, rfl, hlt, fun i x hx => ?_⟩, hnc, hcm, hn⟩
    obtain ⟨h1, h2⟩ := cellsT_at hx
    have e1 := World.ownsRow.cells h (g := g) rfl _ _ h1
    have e2 := World.ownsRow.cells h (g := g) rfl _ _ h2
    rw [Addr.add_lit] at e1 e2
    exact ⟨e1, by rw [show 0 + i * 2 + 1 = 0 + (i * 2 + 1) by omega]; exact e2⟩

theorem OwnT.below {w w' : World} {base : Nat} {v : Value} {ys : List Tk} (h : OwnT w base v ys) (hb : Below w.heap.size w w') : OwnT w' base v ys :=
  World.ownsRow.kept h (row := none) ⟨hb.os, hb.tape, hb.output, hb.size, fun k hk _ => hb.block k hk⟩ (by
    cases hv : v.ownBlock with
    | none => exact .inl rfl
    | some k => exact .inr (by simp))
theorem OwnT.lt {w : World} {base : Nat} {v : Value} {ys : List Tk} (h : OwnT w base v ys) {k : Nat} (hk : v.ownBlock = some k) : base ≤ k ∧ k < w.heap.size := World.ownsRow.lt h k hk

theorem Tryz.infoTick : (Tryz.prog.info? 60).map (fun i => (i.zero, i.size, i.bytes)) = some (some (.agg #[.int .i64 0, .int .u64 0]), 2, 16) := by kernel_rfl

section
variable (w : World)

theorem run_app_nil (base : Nat) (t ty : TypeId) (ht : Tryz.prog.underlying t = some (.slice 60)) (v : Value) (ys : List Tk) (hown : OwnT w base v ys) (c : Nat) :
    (Builtin.append_ #[t, t] ty #[v, .slice none 0 c]).run Tryz.prog w = .ok v w := by
  obtain ⟨i0, hi, hz0, hz1, hz2⟩ := info_parts Tryz.infoTick
  rcases hown.2 with ⟨rfl, _⟩ | ⟨g, cap, cur, rfl, _, _, hnc, _⟩
  · simp [Builtin.append_, run_underlying ht, sizeOf, typeInfo, hi, Builtin.lenOf, Builtin.firstCells]
  · simp [Builtin.append_, run_underlying ht, sizeOf, typeInfo, hi, Builtin.lenOf, Builtin.firstCells, hnc, storeCells]

/-- append onto a row of the call's own, of whatever ticks. -/
theorem run_app (base : Nat) (t ty : TypeId) (ht : Tryz.prog.underlying t = some (.slice 60)) (v : Value) (ys : List Tk) (hown : OwnT w base v ys)
    (m : Nat) (A : Option Addr) (c : Nat) (news : List Tk) (hl : LiesB m w A news) (hlen : ys.length + news.length ≤ 1000000) (hbase : base ≤ w.heap.size) :
    ∃ v' w', (Builtin.append_ #[t, t] ty #[v, .slice A news.length c]).run Tryz.prog w = .ok v' w' ∧ OwnT w' base v' (ys ++ news) ∧ w.grownBy w' v.ownBlock ∧
      (v'.ownBlock = v.ownBlock ∨ v'.ownBlock = some w.heap.size) := by
  obtain ⟨i0, hi, hz0, hz1, hz2⟩ := info_parts Tryz.infoTick
  cases A with
  | none =>
    have hn : news = [] := by
      rcases hl with h | ⟨b, off, h, _⟩
      · exact h
      · cases h
    subst hn
    exact ⟨v, w, run_app_nil w base t ty ht v ys hown c, by simpa using hown, World.grownBy.refl w _, .inl rfl⟩
  | some a =>
    have hcells : ∀ j u, (cellsT news)[j]? = some u → w.cell? (a.add j) = some u := by
      intro j u hu
      have hl' := hl
      rcases hl' with h | ⟨b, off, h, _⟩
      · subst h; simp [cellsT] at hu
      · cases h
        exact hl.cells j u hu
    obtain ⟨v', w', hr, h2, h3, _, h5⟩ := run_append_own_at (P := Tryz.prog) w base t ty 60 i0 _ 2 16 ht hi hz0 hz1 hz2 rfl (by omega) v ys.length (cellsT ys) hown a news.length c (cellsT news)
      (by rw [cellsT_len]) hcells cellsT_one (by unfold maxLen; omega) (by omega) hbase
    refine ⟨v', w', hr, ?_, h3, h5⟩
    unfold OwnT
    rw [cellsT_append, List.length_append]
    exact h2

variable {o : Oper} {a : Act} {K : Act → World → Prop} {Q : Exit → Act → World → Prop}

theorem wp_app (s x : Operand) (t : TypeId) (ho : o.op = .call { callee := .builtin .append, args := #[s, x], argTypes := #[t, t] })
    (base : Nat) (ht : Tryz.prog.underlying t = some (.slice 60)) (v : Value) (ys : List Tk) (hs : a.eval s = v) (hown : OwnT w base v ys)
    (k : Nat) (A : Option Addr) (m c : Nat) (news : List Tk) (hm : news.length = m) (hx : a.eval x = .slice A m c) (hl : LiesB k w A news) (hlen : ys.length + news.length ≤ 1000000) (hbase : base ≤ w.heap.size)
    (h : ∀ v' w', OwnT w' base v' (ys ++ news) → w.grownBy w' v.ownBlock → (v'.ownBlock = v.ownBlock ∨ v'.ownBlock = some w.heap.size) → K (a.put o.dst v') w') : o.wp Tryz.prog a w K Q := by
  subst hm
  obtain ⟨v', w', hr, h2, h3, h4⟩ := run_app w base t o.type ht v ys hown k A c news hl hlen hbase
  unfold Oper.wp execOp
  simp only [ho, resolve, invoke, builtin, Sem.run_bind, Sem.run_pure, Result.andThen_ok, List.map_toArray, List.map_cons, List.map_nil, hs, hx, hr]
  exact h v' w' h2 h3 h4

theorem wpList_app {ops : Array Oper} {rest : List Oper} (hgd : o.guard = none) (s x : Operand) (t : TypeId) (ho : o.op = .call { callee := .builtin .append, args := #[s, x], argTypes := #[t, t] })
    (base : Nat) (ht : Tryz.prog.underlying t = some (.slice 60)) (v : Value) (ys : List Tk) (hs : a.eval s = v) (hown : OwnT w base v ys)
    (k : Nat) (A : Option Addr) (m c : Nat) (news : List Tk) (hm : news.length = m) (hx : a.eval x = .slice A m c) (hl : LiesB k w A news) (hlen : ys.length + news.length ≤ 1000000) (hbase : base ≤ w.heap.size)
    (h : ∀ v' w', OwnT w' base v' (ys ++ news) → w.grownBy w' v.ownBlock → (v'.ownBlock = v.ownBlock ∨ v'.ownBlock = some w.heap.size) → wpList Tryz.prog ops Q rest (a.put o.dst v') w') : wpList Tryz.prog ops Q (o :: rest) a w :=
  wpList_plain hgd fun _ hK => wp_app w s x t ho base ht v ys hs hown k A m c news hm hx hl hlen hbase fun v' w' h2 h3 h4 => hK _ _ (h v' w' h2 h3 h4)

theorem step_app {ops : Array Oper} {E : Prop} (hgd : o.guard = none) (s x : Operand) (t : TypeId) (ho : o.op = .call { callee := .builtin .append, args := #[s, x], argTypes := #[t, t] })
    (base : Nat) (ht : Tryz.prog.underlying t = some (.slice 60)) (v : Value) (ys : List Tk) (hs : a.eval s = v) (hown : OwnT w base v ys)
    (k : Nat) (A : Option Addr) (m c : Nat) (news : List Tk) (hm : news.length = m) (hx : a.eval x = .slice A m c) (hl : LiesB k w A news) (hlen : ys.length + news.length ≤ 1000000) (hbase : base ≤ w.heap.size)
    (h : ∀ v' w', OwnT w' base v' (ys ++ news) → w.grownBy w' v.ownBlock → (v'.ownBlock = v.ownBlock ∨ v'.ownBlock = some w.heap.size) → K (a.put o.dst v') w') :
    if Region.wanted o (yielded ops a.tmps) = true then Oper.wp Tryz.prog o a w K Q else E := by
  have hw : Region.wanted o (yielded ops a.tmps) = true := by simp [Region.wanted, hgd]
  rw [if_pos hw]
  exact wp_app w s x t ho base ht v ys hs hown k A m c news hm hx hl hlen hbase h
end

theorem results_cellT {fn : Func} {p : Tmp} (h : fn.results = #[.cell p 60]) (tmps : Array Value) (w : World) (g : Nat) (v0 v1 : Value) (hp : tmps.getD p undef = .pointer (some ⟨g, 0, none⟩))
    (h0 : w.cell? ⟨g, 0, none⟩ = some v0) (h1 : w.cell? ⟨g, 1, none⟩ = some v1) : (results fn tmps).run Tryz.prog w = .ok (.agg #[v0, v1]) w := by
  have hp' : tmps[p]?.getD undef = .pointer (some ⟨g, 0, none⟩) := by simpa using hp
  simp [results, h, hp', asAddr]
  go_simp
end Go.Proofs.YtdbohojncbeajaaGreat.C3

namespace Go.Proofs.YtdbohojncbeajaaGreat.C3
open Go.RowKit

theorem ofC_drop {l : List Tk} {i : Nat} {x : Tk} {q : Int} (hx : l[i]? = some x) : ofC (l.drop i) q = if x.k = q then x.n else ofC (l.drop (i + 1)) q := by
  obtain ⟨hi, he⟩ := List.getElem?_eq_some_iff.1 hx
  rw [List.drop_eq_getElem_cons hi, he, ofC]

set_option maxHeartbeats 400000 in
theorem refOf_any (A : Option Addr) (c : Nat) (l : List Tk) (q : Int) (w : World) (h : In w A c l) :
    Calls Tryz.prog 29 #[.slice A l.length c, .int .i64 q] w fun e w' => e = .returned (.int .u64 (ofC l q)) ∧ w = w' := by
  obtain ⟨hl, hcap, htop, -⟩ := h
  have hlm : l.length ≤ 9223372036854775807 := by unfold maxLen at htop; omega
  clear hcap htop
  go_enter Tryz.func29, Tryz.ntmps29
  go_wp2_with fail
  go_loop [5] (fun iv => ∃ k : Nat, k ≤ l.length ∧ iv = .int .i64 k ∧ Hid (ofC l q = ofC (l.drop k) q)) (fun iv => l.length - (intOf iv).toNat)
  case atStart => exact ⟨0, Nat.zero_le _, rfl, by simp [Hid]⟩
  case round =>
    obtain ⟨k, hk, rfl, h0⟩ := hrel
    by_cases hlt : k < l.length
    · obtain ⟨b, off, rfl, hb, hc⟩ := hl.get hlt
      obtain ⟨x, hx⟩ : ∃ x, l[k]? = some x := ⟨_, List.getElem?_eq_getElem hlt⟩
      obtain ⟨hc0, hc1⟩ := hc k x hx
      have HX := Lib.hid hx
      clear hx hc hl
      by_cases he : x.k = q
      · have HE := Lib.hid he
        have hbq : (x.k == q) = true := by simp [he]
        clear he
        go_wp2_with fail
        go_ret
        refine ⟨ret_int ?_, rfl⟩
        rw [h0.out, ofC_drop HX.out, if_pos HE.out]
      · have HE := Lib.hid he
        have hbq : (x.k == q) = false := by simp [he]
        clear he
        go_wp2_with fail
        go_round
        case rel => exact ⟨k + 1, by omega, by go_num, by show ofC l q = _; rw [h0.out, ofC_drop HX.out, if_neg HE.out]⟩
        case measure => simp [intOf]; omega
    · go_wp2_with fail
      go_ret
      refine ⟨ret_int ?_, rfl⟩
      rw [h0.out, List.drop_eq_nil_of_le (by omega)]
      rfl

theorem eq_all {l l' : List Tk} {i : Nat} (h0 : l.take i = l'.take i) (hi : l.length ≤ i) (hi' : l'.length ≤ i) : decide (l = l') = true := by
  rw [List.take_of_length_le hi, List.take_of_length_le hi'] at h0
  exact decide_eq_true h0
theorem ne_at {l l' : List Tk} {i : Nat} {x x' : Tk} (hx : l[i]? = some x) (hx' : l'[i]? = some x') (h : x ≠ x') : decide (l = l') = false := by
  refine decide_eq_false fun e => h ?_
  rw [e, hx'] at hx
  exact (Option.some.inj hx).symm
theorem ne_len {l l' : List Tk} (h : l.length ≠ l'.length) : decide (l = l') = false := decide_eq_false fun e => h (by rw [e])
theorem take_eq_succ {l l' : List Tk} {i : Nat} {x : Tk} (h0 : l.take i = l'.take i) (hx : l[i]? = some x) (hx' : l'[i]? = some x) : l.take (i + 1) = l'.take (i + 1) := by
  obtain ⟨hi, he⟩ := List.getElem?_eq_some_iff.1 hx
  obtain ⟨hi', he'⟩ := List.getElem?_eq_some_iff.1 hx'
  rw [List.take_succ_eq_append_getElem hi, List.take_succ_eq_append_getElem hi', h0, he, he']

end Go.Proofs.YtdbohojncbeajaaGreat.C3

namespace Go.Proofs.YtdbohojncbeajaaGreat.C3
open Go.RowKit

theorem isC_bad {l : List Tk} {i : Nat} {x : Tk} (hx : l[i]? = some x) (hb : bad x = true) : isC l = false := by
  unfold isC
  have : l.any bad = true := List.any_eq_true.2 ⟨x, List.mem_of_getElem? hx, hb⟩
  rw [this]; simp
theorem isC_fall {l : List Tk} {i : Nat} {x y : Tk} (hy : l[i]? = some y) (hx : l[i + 1]? = some x) (hb : x.k ≤ y.k) : isC l = false := by
  unfold isC
  have : ¬ Asc l := fun h => by
    obtain ⟨h1, e1⟩ := List.getElem?_eq_some_iff.1 hy
    obtain ⟨h2, e2⟩ := List.getElem?_eq_some_iff.1 hx
    have := List.pairwise_iff_getElem.1 h i (i + 1) h1 h2 (by omega)
    rw [e1, e2] at this
    omega
  rw [decide_eq_false this]; simp
theorem isC_end {l : List Tk} {i : Nat} (h1 : Asc (l.take i)) (h2 : (l.take i).any bad = false) (hi : l.length ≤ i) : isC l = decide (l.length ≤ 40) := by
  rw [List.take_of_length_le hi] at h1 h2
  unfold isC
  rw [decide_eq_true h1, h2]; simp
theorem any_bad_succ {l : List Tk} {i : Nat} {x : Tk} (h : (l.take i).any bad = false) (hx : l[i]? = some x) (hb : bad x = false) : (l.take (i + 1)).any bad = false := by
  obtain ⟨hi, he⟩ := List.getElem?_eq_some_iff.1 hx
  rw [List.take_succ_eq_append_getElem hi, List.any_append, h, he]
  simp [hb]
theorem asc_snoc {l : List Tk} {x : Tk} (h : Asc l) (hl : ∀ y ∈ l, y.k < x.k) : Asc (l ++ [x]) :=
  List.pairwise_append.2 ⟨h, List.pairwise_singleton _ _, fun y hy z hz => by rw [List.mem_singleton.1 hz]; exact hl y hy⟩
theorem asc_one {l : List Tk} {x : Tk} (hx : l[0]? = some x) : Asc (l.take 1) := by
  obtain ⟨hi, he⟩ := List.getElem?_eq_some_iff.1 hx
  rw [List.take_succ_eq_append_getElem hi]
  exact List.pairwise_singleton _ _
theorem asc_succ {l : List Tk} {i : Nat} {x y : Tk} (h : Asc (l.take (i + 1))) (hy : l[i]? = some y) (hx : l[i + 1]? = some x) (hb : y.k < x.k) : Asc (l.take (i + 1 + 1)) := by
  obtain ⟨h1, e1⟩ := List.getElem?_eq_some_iff.1 hy
  obtain ⟨h2, e2⟩ := List.getElem?_eq_some_iff.1 hx
  rw [List.take_succ_eq_append_getElem h2, e2]
  refine asc_snoc h fun z hz => ?_
  rw [List.take_succ_eq_append_getElem h1, e1] at hz h
  rcases List.mem_append.1 hz with h' | h'
  · exact Int.lt_trans ((List.pairwise_append.1 h).2.2 z h' y (by simp)) hb
  · rw [List.mem_singleton.1 h']; exact hb

set_option maxHeartbeats 1000000 in
theorem refIs_any (A : Option Addr) (c : Nat) (l : List Tk) (w : World) (h : In w A c l) :
    Calls Tryz.prog 13 #[.slice A l.length c] w (RetV w (.bool (isC l))) := by
  obtain ⟨hl, hcap, htop, -⟩ := h
  have hlm : l.length ≤ 9223372036854775807 := by unfold maxLen at htop; omega
  clear hcap htop
  go_enter Tryz.func13, Tryz.ntmps13
  go_wp2_with fail
  go_loopw [3] (fun iv wr => ∃ k : Nat, k ≤ l.length ∧ iv = .int .i64 k ∧ Hid (Asc (l.take k)) ∧ Hid ((l.take k).any bad = false) ∧ Below w.heap.size w wr) (fun iv _ => l.length - (intOf iv).toNat)
  case atStart => exact ⟨0, Nat.zero_le _, rfl, List.Pairwise.nil, by simp [Hid], Below.refl _ _⟩
  case round =>
    obtain ⟨k, hk, rfl, h1, h2, hbw⟩ := hrel
    by_cases hlt : k < l.length
    · obtain ⟨b, off, rfl, hb, hc⟩ := (hl.below hbw).get hlt
      obtain ⟨x, hx⟩ : ∃ x, l[k]? = some x := ⟨_, List.getElem?_eq_getElem hlt⟩
      obtain ⟨hc0, hc1⟩ := hc k x hx
      have HX := Lib.hid hx
      clear hx hl
      obtain ⟨xk, xn⟩ := x
      dsimp only at hc0 hc1
      have hki : (k : Int) < (l.length : Int) := by omega
      by_cases c1 : xk < 0
      · have HB : Hid (bad ⟨xk, xn⟩ = true) := by show bad _ = _; simp [bad, c1]
        clear hc
        go_wp2_with fail
        go_quiet (fail)
        go_wp2_with fail
        go_ret
        exact ⟨ret_bool (isC_bad HX.out HB.out).symm, below_drewN hbw _⟩
      · have d1 : decide (xk < 0) = false := decide_eq_false c1
        by_cases c2 : 1000000 < xk
        · have HB : Hid (bad ⟨xk, xn⟩ = true) := by show bad _ = _; simp [bad, c2]
          clear hc c1
          go_wp2_with fail
          go_quiet (fail)
          go_wp2_with fail
          go_ret
          exact ⟨ret_bool (isC_bad HX.out HB.out).symm, below_drewN hbw _⟩
        · have d2 : decide (1000000 < xk) = false := decide_eq_false c2
          by_cases c3 : xn = 0
          · have HB : Hid (bad ⟨xk, xn⟩ = true) := by show bad _ = _; simp [bad, c3]
            clear hc c1 c2
            subst c3
            go_wp2_with fail
            go_quiet (fail)
            go_wp2_with fail
            go_ret
            exact ⟨ret_bool (isC_bad HX.out HB.out).symm, below_drewN hbw _⟩
          · have HB : Hid (bad ⟨xk, xn⟩ = false) := by show bad _ = _; simp [bad, c1, c2, c3]
            have c3' : (xn == 0) = false := by simp [c3]
            clear c1 c2 c3
            by_cases hk0 : k = 0
            · subst hk0
              simp only [Nat.zero_mul, Nat.add_zero] at hc0 hc1
              clear hc
              go_wp2_with fail
              go_quiet (fail)
              go_wp2_with fail
              go_roundw
              case rel => exact ⟨1, by omega, by go_num, asc_one HX.out, any_bad_succ h2.out HX.out HB.out, below_drewN hbw _⟩
              case measure => simp [intOf]; omega
            · obtain ⟨j, hj⟩ : ∃ j, k = j + 1 := ⟨k - 1, by omega⟩
              have hkp : 0 < k := by omega
              obtain ⟨y, hy⟩ : ∃ y, l[j]? = some y := ⟨_, List.getElem?_eq_getElem (by omega)⟩
              obtain ⟨hd0, -⟩ := hc j y hy
              have HY := Lib.hid hy
              clear hc hy
              obtain ⟨yk, yn⟩ := y
              dsimp only at hd0
              have HJ := Lib.hid hj
              have s1 : IntKind.i64.wrap ((k : Int) - 1) = (k : Int) - 1 := IntWalk.i64_in _ (by omega)
              have s2 : 0 ≤ (k : Int) - 1 := by omega
              have s4 : (k : Int) - 1 < (l.length : Int) := by omega
              have s3 : ((k : Int) - 1).toNat = j := by omega
              clear hj hk0
              by_cases c4 : yk < xk
              · have HC := Lib.hid c4
                have d4 : decide (xk ≤ yk) = false := decide_eq_false (by omega)
                clear c4
                go_wp2_with fail
                go_quiet (fail)
                go_wp2_with fail
                go_roundw
                case rel =>
                  have hj := HJ.out
                  clear s1 s2 s3 s4
                  subst hj
                  exact ⟨j + 1 + 1, by omega, by go_num, asc_succ h1.out HY.out HX.out HC.out, any_bad_succ h2.out HX.out HB.out, below_drewN hbw _⟩
                case measure => simp [intOf]; omega
              · have HC : Hid (xk ≤ yk) := by show xk ≤ yk; omega
                have c4' : xk ≤ yk := HC.out
                clear c4
                go_wp2_with fail
                go_quiet (fail)
                go_wp2_with fail
                go_ret
                have hj := HJ.out
                clear s1 s2 s3 s4
                subst hj
                exact ⟨ret_bool (isC_fall HY.out HX.out HC.out).symm, below_drewN hbw _⟩
    · go_wp2_with fail
      go_ret
      refine ⟨ret_bool ?_, hbw⟩
      rw [isC_end h1.out h2.out (by omega)]
      exact decide_eq_decide.2 (by omega)
end Go.Proofs.YtdbohojncbeajaaGreat.C3

namespace Go.Proofs.YtdbohojncbeajaaGreat.C3
open Go.RowKit

theorem In.drewN {w : World} {A : Option Addr} {c : Nat} {xs : List Tk} (h : In w A c xs) (n : Nat) : In (w.drewN n) A c xs := h.later (below_drewN (Below.refl _ _) n)

theorem refOf_quiet (A : Option Addr) (c : Nat) (l : List Tk) (q v : Int) (w : World) (n : Nat) (h : In w A c l) (hv : ofC l q = v) : Calls Tryz.prog 29 #[.slice A l.length c, .int .i64 q] (w.drewN n) fun e w' => e = .returned (.int .u64 v) ∧ ∃ m, w' = w.drewN m :=
  hv ▸ (refOf_any A c l q _ (h.drewN n)).mono fun _ _ ⟨h1, h2⟩ => ⟨h1, n, h2.symm⟩

theorem all_succ {p : Tk → Bool} {l : List Tk} {k : Nat} {x : Tk} (h0 : (l.take k).all p = true) (hx : l[k]? = some x) (h : p x = true) : (l.take (k + 1)).all p = true := by
  obtain ⟨hi, he⟩ := List.getElem?_eq_some_iff.1 hx
  rw [List.take_succ_eq_append_getElem hi, List.all_append, h0, he]
  simp [h]
theorem all_end {p : Tk → Bool} {l : List Tk} {k : Nat} (h0 : (l.take k).all p = true) (h : l.length ≤ k) : l.all p = true := by rwa [List.take_of_length_le h] at h0
theorem all_fail {p : Tk → Bool} {l : List Tk} {k : Nat} {x : Tk} (hx : l[k]? = some x) (h : p x = false) : l.all p = false := by
  rw [List.all_eq_false]
  exact ⟨x, List.mem_of_getElem? hx, by simp [h]⟩

set_option maxHeartbeats 400000 in
theorem refUnder_any (A A' : Option Addr) (c c' : Nat) (l l' : List Tk) (w : World) (h : In w A c l) (h' : In w A' c' l') :
    Calls Tryz.prog 20 #[.slice A l.length c, .slice A' l'.length c'] w (RetV w (.bool (underC l l'))) := by
  obtain ⟨hl, hcap, htop, -⟩ := h
  have HB := Lib.hid h'
  have hlm : l.length ≤ 9223372036854775807 := by unfold maxLen at htop; omega
  clear hcap htop h'
  go_enter Tryz.func20, Tryz.ntmps20
  go_wp2_with fail
  go_loopw [5] (fun iv wr => ∃ k : Nat, k ≤ l.length ∧ iv = .int .i64 k ∧ Hid ((l.take k).all (fun t => decide (t.n ≤ ofC l' t.k)) = true) ∧ Below w.heap.size w wr) (fun iv _ => l.length - (intOf iv).toNat)
  case atStart => exact ⟨0, Nat.zero_le _, rfl, by simp [Hid], Below.refl _ _⟩
  case round =>
    obtain ⟨k, hk, rfl, h0, hbw⟩ := hrel
    by_cases hlt : k < l.length
    · obtain ⟨b, off, rfl, hb, hc⟩ := (hl.below hbw).get hlt
      obtain ⟨x, hx⟩ : ∃ x, l[k]? = some x := ⟨_, List.getElem?_eq_getElem hlt⟩
      obtain ⟨hc0, hc1⟩ := hc k x hx
      have HX := Lib.hid hx
      clear hx hc hl
      obtain ⟨xk, xn⟩ := x
      dsimp only at hc0 hc1
      have hki : (k : Int) < (l.length : Int) := by omega
      replace HB := Lib.hid (HB.out.later hbw)
      obtain ⟨q, hq⟩ : ∃ q, ofC l' xk = q := ⟨_, rfl⟩
      have HQ := Lib.hid hq
      clear hq
      by_cases hle : xn ≤ q
      · have HP : Hid ((fun t : Tk => decide (t.n ≤ ofC l' t.k)) ⟨xk, xn⟩ = true) := by show decide (xn ≤ ofC l' xk) = true; rw [HQ.out]; exact decide_eq_true hle
        have d1 : decide (q < xn) = false := decide_eq_false (by omega)
        clear hle
        go_wp2_with fail
        go_quiet ((go_at_call 29; exact refOf_quiet _ _ _ _ _ _ _ HB.out HQ.out))
        go_wp2_with fail
        go_roundw
        case rel => exact ⟨k + 1, by omega, by go_num, all_succ h0.out HX.out HP.out, below_drewN hbw _⟩
        case measure => simp [intOf]; omega
      · have HP : Hid ((fun t : Tk => decide (t.n ≤ ofC l' t.k)) ⟨xk, xn⟩ = false) := by show decide (xn ≤ ofC l' xk) = false; rw [HQ.out]; exact decide_eq_false hle
        have d1 : q < xn := by omega
        clear hle
        go_wp2_with fail
        go_quiet ((go_at_call 29; exact refOf_quiet _ _ _ _ _ _ _ HB.out HQ.out))
        go_wp2_with fail
        go_ret
        exact ⟨ret_bool (all_fail HX.out HP.out).symm, below_drewN hbw _⟩
    · go_wp2_with fail
      go_ret
      exact ⟨ret_bool (all_end h0.out (by omega)).symm, hbw⟩

set_option maxHeartbeats 400000 in
theorem refCmp_any (A A' : Option Addr) (c c' : Nat) (l l' : List Tk) (w : World) (h : In w A c l) (h' : In w A' c' l') :
    Calls Tryz.prog 15 #[.slice A l.length c, .slice A' l'.length c'] w (RetV w (.int .i64 (cmpC l l'))) := by
  have HA := Lib.hid h
  have HB := Lib.hid h'
  clear h h'
  obtain ⟨p, hp⟩ : ∃ p, underC l l' = p := ⟨_, rfl⟩
  obtain ⟨q, hq⟩ : ∃ q, underC l' l = q := ⟨_, rfl⟩
  have HC : Hid (cmpC l l' = cmpB p q) := by show cmpC l l' = _; unfold cmpC; rw [hp, hq]
  have HP := Lib.hid hp
  have HQ := Lib.hid hq
  clear hp hq
  rw [HC.out]
  go_enter Tryz.func15, Tryz.ntmps15
  go_wp2_with fail
  refine (refUnder_any A A' c c' l l' w HA.out HB.out).mono ?_
  rintro e w1 ⟨rfl, hb1⟩
  rw [HP.out]
  go_wp2_with fail
  refine (refUnder_any A' A c' c l' l w1 (HB.out.later hb1) (HA.out.later hb1)).mono ?_
  rintro e w2 ⟨rfl, hb2⟩
  rw [HQ.out]
  have hb3 : Below w.heap.size w w2 := hb1.trans (hb2.mono hb1.size)
  cases p <;> cases q
  all_goals
    go_wp2_with fail
    go_ret
    exact ⟨rfl, hb3⟩
end Go.Proofs.YtdbohojncbeajaaGreat.C3

namespace Go.Proofs.YtdbohojncbeajaaGreat.S2

/-- A schema: its kind, and what is in it. -/
inductive Tr where
  | mk (k : Int) (ins : List Tr)

def Tr.k : Tr → Int | .mk k _ => k
def Tr.ins : Tr → List Tr | .mk _ l => l

theorem Tr.ind {P : Tr → Prop} (h : ∀ k l, (∀ x ∈ l, P x) → P (.mk k l)) : ∀ t, P t := fun t =>
  Tr.rec (motive_1 := P) (motive_2 := fun l => ∀ x ∈ l, P x) (fun k l ih => h k l ih) (by simp) (fun x l hx hl y hy => by
    rcases List.mem_cons.1 hy with rfl | h'
    · exact hx
    · exact hl y h') t

mutual
def Tr.same : Tr → Tr → Bool
  | .mk k l, .mk k' l' => decide (k = k') && Tr.sameL l l'
def Tr.sameL : List Tr → List Tr → Bool
  | [], [] => true
  | x :: l, y :: l' => x.same y && Tr.sameL l l'
  | [], _ :: _ => false
  | _ :: _, [] => false
end

theorem Tr.same_iff : ∀ a b : Tr, a.same b = true ↔ a = b := by
  intro a
  refine Tr.rec (motive_1 := fun a => ∀ b, a.same b = true ↔ a = b) (motive_2 := fun l => ∀ l', Tr.sameL l l' = true ↔ l = l') ?_ ?_ ?_ a
  · rintro k l ih ⟨k', l'⟩
    simp [Tr.same, ih l']
  · intro l'; cases l' <;> simp [Tr.sameL]
  · intro x l hx hl l'
    cases l' with
    | nil => simp [Tr.sameL]
    | cons y l' => simp [Tr.sameL, hx y, hl l']

instance : DecidableEq Tr := fun a b => decidable_of_iff (a.same b = true) (Tr.same_iff a b)

/-- How many are in a schema of that kind; -1 where it is no kind. -/
def arI (k : Int) : Int := if k = 1 ∨ k = 2 ∨ k = 3 ∨ k = 6 ∨ k = 7 then 0 else if k = 4 ∨ k = 8 then 1 else if k = 5 then 2 else -1

/-- A schema of at most n deep. -/
def isT : Nat → Tr → Bool
  | 0, _ => false
  | n + 1, t => decide ((t.ins.length : Int) = arI t.k) && t.ins.all (isT n)

end Go.Proofs.YtdbohojncbeajaaGreat.S2

namespace Go.Proofs.YtdbohojncbeajaaGreat.S2
open Go.RowKit

/-- A schema where it lies: its kind, where its list begins, the list's capacity, what is in it. -/
inductive Sc where
  | mk (k : Int) (A : Option Addr) (c : Nat) (ins : List Sc)

def Sc.k : Sc → Int | .mk k _ _ _ => k
def Sc.A : Sc → Option Addr | .mk _ A _ _ => A
def Sc.c : Sc → Nat | .mk _ _ c _ => c
def Sc.ins : Sc → List Sc | .mk _ _ _ l => l
def Sc.val : Sc → Value | .mk k A c l => .agg #[.int .i64 k, .slice A l.length c]
def Sc.v1 : Sc → Value | .mk _ A c l => .slice A l.length c

theorem val_mk (k : Int) (A : Option Addr) (c : Nat) (l : List Sc) : (Sc.mk k A c l).val = .agg #[.int .i64 k, .slice A l.length c] := rfl

theorem Sc.ind {P : Sc → Prop} (h : ∀ k A c l, (∀ x ∈ l, P x) → P (.mk k A c l)) : ∀ t, P t := fun t =>
  Sc.rec (motive_1 := P) (motive_2 := fun l => ∀ x ∈ l, P x) (fun k A c l ih => h k A c l ih) (by simp) (fun x l hx hl y hy => by
    rcases List.mem_cons.1 hy with rfl | h'
    · exact hx
    · exact hl y h') t

mutual
/-- What it is, wherever it lies. -/
def Sc.er : Sc → Tr
  | .mk k _ _ l => .mk k (Sc.erL l)
def Sc.erL : List Sc → List Tr
  | [] => []
  | x :: l => x.er :: Sc.erL l
end

theorem erL_map : ∀ l, Sc.erL l = l.map Sc.er
  | [] => rfl
  | x :: l => by rw [Sc.erL, erL_map l, List.map_cons]
theorem er_mk (k : Int) (A : Option Addr) (c : Nat) (l : List Sc) : (Sc.mk k A c l).er = .mk k (l.map Sc.er) := by rw [Sc.er, erL_map]
theorem er_k (s : Sc) : s.er.k = s.k := by cases s; rw [er_mk]; rfl
theorem er_ins (s : Sc) : s.er.ins = s.ins.map Sc.er := by cases s; rw [er_mk]; rfl
/-- The schemas xs lie, one behind the other, from A on, in a block that P lets. -/
def LiesP (P : Nat → Prop) (w : World) (A : Option Addr) (xs : List Sc) : Prop :=
  xs = [] ∨ ∃ b off, A = some ⟨b, off, none⟩ ∧ P b ∧ ∀ i x, xs[i]? = some x →
    w.cell? ⟨b, off + i * 2, none⟩ = some (.int .i64 x.k) ∧ w.cell? ⟨b, off + i * 2 + 1, none⟩ = some x.v1

/-- All of it lies in w, in blocks that P lets. -/
inductive Sc.Inp (P : Nat → Prop) (w : World) : Sc → Prop
  | mk (k : Int) (A : Option Addr) (c : Nat) (l : List Sc) : LiesP P w A l → l.length ≤ c → c ≤ 9223372036854775807 → l.length * 32 ≤ 140737488351232 → (∀ x ∈ l, Sc.Inp P w x) → Sc.Inp P w (.mk k A c l)

theorem LiesP.nil {P : Nat → Prop} {w : World} {A : Option Addr} : LiesP P w A [] := .inl rfl

theorem LiesP.keep {P : Nat → Prop} {w w' : World} {A : Option Addr} {xs : List Sc} (h : LiesP P w A xs) (hb : ∀ b, P b → w'.heap[b]? = w.heap[b]?) : LiesP P w' A xs := by
  rcases h with h | ⟨b, off, hA, hlt, h⟩
  · exact .inl h
  · exact .inr ⟨b, off, hA, hlt, fun i x hx => ⟨(World.cell?_of_block (a := ⟨b, _, none⟩) (hb b hlt)).trans (h i x hx).1, (World.cell?_of_block (a := ⟨b, _, none⟩) (hb b hlt)).trans (h i x hx).2⟩⟩

theorem LiesP.mono {P Q : Nat → Prop} {w : World} {A : Option Addr} {xs : List Sc} (h : LiesP P w A xs) (hm : ∀ b, P b → Q b) : LiesP Q w A xs := by
  rcases h with h | ⟨b, off, hA, hlt, h⟩
  · exact .inl h
  · exact .inr ⟨b, off, hA, hm b hlt, h⟩

theorem Sc.Inp.keep {P : Nat → Prop} {w w' : World} {s : Sc} (h : s.Inp P w) (hb : ∀ b, P b → w'.heap[b]? = w.heap[b]?) : s.Inp P w' := by
  induction h with
  | mk k A c l hl h1 h2 h3 _ ih => exact .mk k A c l (hl.keep hb) h1 h2 h3 ih

theorem Sc.Inp.mono {P Q : Nat → Prop} {w : World} {s : Sc} (h : s.Inp P w) (hm : ∀ b, P b → Q b) : s.Inp Q w := by
  induction h with
  | mk k A c l hl h1 h2 h3 _ ih => exact .mk k A c l (hl.mono hm) h1 h2 h3 ih

/-- .. below block n. -/
def LiesS (n : Nat) (w : World) (A : Option Addr) (xs : List Sc) : Prop := LiesP (fun b => b < n) w A xs
def Sc.In (n : Nat) (w : World) (s : Sc) : Prop := s.Inp (fun b => b < n) w

theorem LiesS.nil {n : Nat} {w : World} {A : Option Addr} : LiesS n w A [] := .inl rfl
theorem LiesS.below {n : Nat} {w w' : World} {A : Option Addr} {xs : List Sc} (h : LiesS n w A xs) (hb : Below n w w') : LiesS n w' A xs := LiesP.keep h fun b h => hb.block b h
theorem LiesS.up {n m : Nat} {w : World} {A : Option Addr} {xs : List Sc} (h : LiesS n w A xs) (hm : n ≤ m) : LiesS m w A xs := LiesP.mono h fun _ h => Nat.lt_of_lt_of_le h hm

theorem LiesS.get {n : Nat} {w : World} {A : Option Addr} {xs : List Sc} (h : LiesS n w A xs) {k : Nat} (hk : k < xs.length) :
    ∃ b off, A = some ⟨b, off, none⟩ ∧ b < n ∧ ∀ i x, xs[i]? = some x →
      w.cell? ⟨b, off + i * 2, none⟩ = some (.int .i64 x.k) ∧ w.cell? ⟨b, off + i * 2 + 1, none⟩ = some x.v1 := by
  rcases h with h | h
  · subst h; simp at hk
  · exact h

theorem Sc.In.keep {n : Nat} {w w' : World} {s : Sc} (h : s.In n w) (hb : Below n w w') : s.In n w' := Sc.Inp.keep h fun b h => hb.block b h
theorem Sc.In.up {n m : Nat} {w : World} {s : Sc} (h : s.In n w) (hm : n ≤ m) : s.In m w := Sc.Inp.mono h fun _ h => Nat.lt_of_lt_of_le h hm

theorem Sc.In.out {n : Nat} {w : World} {k : Int} {A : Option Addr} {c : Nat} {l : List Sc} (h : (Sc.mk k A c l).In n w) :
    LiesS n w A l ∧ l.length ≤ c ∧ l.length * 32 ≤ 140737488351232 ∧ ∀ x ∈ l, x.In n w := by
  cases h with
  | mk _ _ _ _ h1 h2 _ h3 h4 => exact ⟨h1, h2, h3, h4⟩

/-- In a later world, whatever was there is as it was. -/
theorem Sc.In.later {w w' : World} {s : Sc} (h : s.In w.heap.size w) (hb : Below w.heap.size w w') : s.In w'.heap.size w' := (h.keep hb).up hb.size

theorem allocB (w : World) (o : Obj) : Below w.heap.size w (w.alloc o) := (Below.refl _ w).alloc (Nat.le_refl _) o
end Go.Proofs.YtdbohojncbeajaaGreat.S2
