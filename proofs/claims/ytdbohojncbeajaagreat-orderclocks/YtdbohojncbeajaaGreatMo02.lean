/- Values: as plain trees, and as they lie in memory. No condition. A loop over a function in a function that calls itself: what a loop leaves as it lay, a row that an iterator gives one by one, and the law of such a loop. Trees of what is nested. No condition. Values and schemas stay where they lie through a loop; what stands in a value, with its schema or beside another value. No condition. What the reference's Size and ahead do. No condition but that what they take lies in memory. What the reference's functions on rows do: At, SameTexts, Rises, Within. No condition but that the slices read as strings. The order of strings, rows that rise: plain mathematics. No condition. What SameTexts and Within of the reference do. No condition but that the slices read as strings. What the reference's Same does. No condition but that the values lie in memory. -/
import Derived.Test.YtdbohojncbeajaaGreatMo01
import Derived.RangeFuncNested
import Derived.RangeFuncBound
import Derived.RangeFuncCalls
import Derived.RangeFuncLeaves
import Derived.Shelf.Abstract
import Derived.Shelf.RegionOpen
import Derived.OwnWalkIn
import Derived.TacticsInMore
import Derived.LoopNIn
import Derived.LoopIn
import Derived.Sort.QuietIn
import Derived.StillTailTactics
import Derived.Deep.RegionHeld3
import Derived.Test.YtdbohojncbeajaaGreatRows
import Derived.Sort.Walk0
namespace Go.Proofs.YtdbohojncbeajaaGreat.V4
open Go.RowKit
open C3 (Tk Asc isC ofC cmpC Nok In belAl allocB drewB RetT)

/-- A value: numbers, texts, clocks, values. -/
inductive Va where
  | mk (n m : Int) (s : List Str) (c : List (List Tk)) (v : List Va)

def Va.n : Va → Int | .mk n _ _ _ _ => n
def Va.m : Va → Int | .mk _ m _ _ _ => m
def Va.s : Va → List Str | .mk _ _ s _ _ => s
def Va.c : Va → List (List Tk) | .mk _ _ _ c _ => c
def Va.v : Va → List Va | .mk _ _ _ _ v => v
/-- Nothing. -/
def Va.zero : Va := .mk 0 0 [] [] []

theorem Va.ind {P : Va → Prop} (h : ∀ n m s c v, (∀ x ∈ v, P x) → P (.mk n m s c v)) : ∀ t, P t := fun t =>
  Va.rec (motive_1 := P) (motive_2 := fun l => ∀ x ∈ l, P x) (fun n m s c v ih => h n m s c v ih) (by simp) (fun x l hx hl y hy => by
    rcases List.mem_cons.1 hy with rfl | h'
    · exact hx
    · exact hl y h') t

mutual
def Va.same : Va → Va → Bool
  | .mk n m s c v, .mk n' m' s' c' v' => decide (n = n') && (decide (m = m') && (decide (s = s') && (decide (c = c') && Va.sameL v v')))
def Va.sameL : List Va → List Va → Bool
  | [], [] => true
  | x :: l, y :: l' => x.same y && Va.sameL l l'
  | [], _ :: _ => false
  | _ :: _, [] => false
end

theorem Va.same_iff : ∀ a b : Va, a.same b = true ↔ a = b := by
  intro a
  refine Va.rec (motive_1 := fun a => ∀ b, a.same b = true ↔ a = b) (motive_2 := fun l => ∀ l', Va.sameL l l' = true ↔ l = l') ?_ ?_ ?_ a
  · rintro n m s c v ih ⟨n', m', s', c', v'⟩
    simp [Va.same, ih v']
  · intro l'; cases l' <;> simp [Va.sameL]
  · intro x l hx hl l'
    cases l' with
    | nil => simp [Va.sameL]
    | cons y l' => simp [Va.sameL, hx y, hl l']

instance : DecidableEq Va := fun a b => decidable_of_iff (a.same b = true) (Va.same_iff a b)

mutual
/-- How many values it is made of. -/
def Va.size : Va → Nat
  | .mk _ _ _ _ v => 1 + Va.sizeL v
def Va.sizeL : List Va → Nat
  | [] => 0
  | x :: l => x.size + Va.sizeL l
end

/-- A clock's slice, where it lies. -/
structure Ck where
  A : Option Addr
  c : Nat
  l : List Tk

def Ck.v (k : Ck) : Value := .slice k.A k.l.length k.c

/-- A value where it lies. -/
inductive Vl where
  | mk (n m : Int) (sA : Option Addr) (sc : Nat) (ss : List Str) (cA : Option Addr) (cc : Nat) (cs : List Ck) (vA : Option Addr) (vc : Nat) (vs : List Vl)

def Vl.n : Vl → Int | .mk n _ _ _ _ _ _ _ _ _ _ => n
def Vl.m : Vl → Int | .mk _ m _ _ _ _ _ _ _ _ _ => m
def Vl.s1 : Vl → Value | .mk _ _ sA sc ss _ _ _ _ _ _ => .slice sA ss.length sc
def Vl.c1 : Vl → Value | .mk _ _ _ _ _ cA cc cs _ _ _ => .slice cA cs.length cc
def Vl.v1 : Vl → Value | .mk _ _ _ _ _ _ _ _ vA vc vs => .slice vA vs.length vc
def Vl.val (x : Vl) : Value := .agg #[.int .u64 x.n, .int .u64 x.m, x.s1, x.c1, x.v1]

theorem val_mk (n m : Int) (sA : Option Addr) (sc : Nat) (ss : List Str) (cA : Option Addr) (cc : Nat) (cs : List Ck) (vA : Option Addr) (vc : Nat) (vs : List Vl) :
    (Vl.mk n m sA sc ss cA cc cs vA vc vs).val = .agg #[.int .u64 n, .int .u64 m, .slice sA ss.length sc, .slice cA cs.length cc, .slice vA vs.length vc] := rfl

theorem Vl.ind {P : Vl → Prop} (h : ∀ n m sA sc ss cA cc cs vA vc vs, (∀ x ∈ vs, P x) → P (.mk n m sA sc ss cA cc cs vA vc vs)) : ∀ t, P t := fun t =>
  Vl.rec (motive_1 := P) (motive_2 := fun l => ∀ x ∈ l, P x) (fun n m sA sc ss cA cc cs vA vc vs ih => h n m sA sc ss cA cc cs vA vc vs ih) (by simp) (fun x l hx hl y hy => by
    rcases List.mem_cons.1 hy with rfl | h'
    · exact hx
    · exact hl y h') t

mutual
/-- What it is, wherever it lies. -/
def Vl.er : Vl → Va
  | .mk n m _ _ ss _ _ cs _ _ vs => .mk n m ss (cs.map Ck.l) (Vl.erL vs)
def Vl.erL : List Vl → List Va
  | [] => []
  | x :: l => x.er :: Vl.erL l
end

theorem erL_map : ∀ l, Vl.erL l = l.map Vl.er
  | [] => rfl
  | x :: l => by rw [Vl.erL, erL_map l, List.map_cons]
theorem er_mk (n m : Int) (sA : Option Addr) (sc : Nat) (ss : List Str) (cA : Option Addr) (cc : Nat) (cs : List Ck) (vA : Option Addr) (vc : Nat) (vs : List Vl) :
    (Vl.mk n m sA sc ss cA cc cs vA vc vs).er = .mk n m ss (cs.map Ck.l) (vs.map Vl.er) := by rw [Vl.er, erL_map]

/-- The cells lie, one behind the other, from A on (where there are any), in a block that P lets. -/
def LiesC (P : Nat → Prop) (w : World) (A : Option Addr) (cs : List Value) : Prop :=
  cs = [] ∨ ∃ b off, A = some ⟨b, off, none⟩ ∧ P b ∧ ∀ i u, cs[i]? = some u → w.cell? ⟨b, off + i, none⟩ = some u

theorem LiesC.nil {P : Nat → Prop} {w : World} {A : Option Addr} : LiesC P w A [] := .inl rfl
theorem LiesC.keep {P : Nat → Prop} {w w' : World} {A : Option Addr} {cs : List Value} (h : LiesC P w A cs) (hb : ∀ b, P b → w'.heap[b]? = w.heap[b]?) : LiesC P w' A cs := by
  rcases h with h | ⟨b, off, hA, hlt, h⟩
  · exact .inl h
  · exact .inr ⟨b, off, hA, hlt, fun i x hx => (World.cell?_of_block (a := ⟨b, _, none⟩) (hb b hlt)).trans (h i x hx)⟩
theorem LiesC.mono {P Q : Nat → Prop} {w : World} {A : Option Addr} {cs : List Value} (h : LiesC P w A cs) (hm : ∀ b, P b → Q b) : LiesC Q w A cs := by
  rcases h with h | ⟨b, off, hA, hlt, h⟩
  · exact .inl h
  · exact .inr ⟨b, off, hA, hm b hlt, h⟩

def cellsS (ss : List Str) : List Value := ss.map fun x => .string (S x)
def cellsC (cs : List Ck) : List Value := cs.map Ck.v
def cellsV (vs : List Vl) : List Value := vs.flatMap fun x => [.int .u64 x.n, .int .u64 x.m, x.s1, x.c1, x.v1]

theorem cellsC_len (cs : List Ck) : (cellsC cs).length = cs.length := by simp [cellsC]
theorem cellsV_len (vs : List Vl) : (cellsV vs).length = vs.length * 5 := by
  induction vs with
  | nil => rfl
  | cons x vs ih => simp only [cellsV, List.flatMap_cons, List.length_append, List.length_cons, List.length_nil] at ih ⊢; omega
theorem cellsV_append (a b : List Vl) : cellsV (a ++ b) = cellsV a ++ cellsV b := by simp [cellsV]

theorem cellsV_at {vs : List Vl} {i : Nat} {x : Vl} (h : vs[i]? = some x) :
    (cellsV vs)[i * 5]? = some (.int .u64 x.n) ∧ (cellsV vs)[i * 5 + 1]? = some (.int .u64 x.m) ∧ (cellsV vs)[i * 5 + 2]? = some x.s1 ∧ (cellsV vs)[i * 5 + 3]? = some x.c1 ∧ (cellsV vs)[i * 5 + 4]? = some x.v1 := by
  induction vs generalizing i with
  | nil => simp at h
  | cons y vs ih =>
    cases i with
    | zero => simp at h; subst h; simp [cellsV]
    | succ i =>
      have := ih (i := i) (by simpa using h)
      have e : (i + 1) * 5 = i * 5 + 1 + 1 + 1 + 1 + 1 := by omega
      rw [e]
      simpa [cellsV] using this

/-- A clock that lies in w, in a block that P lets. -/
structure Ck.Inp (P : Nat → Prop) (w : World) (k : Ck) : Prop where
  lies : LiesC P w k.A (C3.cellsT k.l)
  cap : k.l.length ≤ k.c
  top : k.c ≤ maxLen
  nok : Nok k.l
  few : k.l.length * 16 ≤ 140737488351232

/-- All of it lies in w, in blocks that P lets. -/
inductive Vl.Inp (P : Nat → Prop) (w : World) : Vl → Prop
  | mk (n m : Int) (sA : Option Addr) (sc : Nat) (ss : List Str) (cA : Option Addr) (cc : Nat) (cs : List Ck) (vA : Option Addr) (vc : Nat) (vs : List Vl) :
    (0 ≤ n ∧ n ≤ 18446744073709551615) → (0 ≤ m ∧ m ≤ 18446744073709551615) →
    LiesC P w sA (cellsS ss) → (ss.length ≤ sc ∧ sc ≤ maxLen ∧ ss.length * 16 ≤ 140737488351232) → (∀ s ∈ ss, s.length ≤ maxLen) →
    LiesC P w cA (cellsC cs) → (cs.length ≤ cc ∧ cc ≤ maxLen ∧ cs.length * 24 ≤ 140737488351232) → (∀ k ∈ cs, k.Inp P w) →
    LiesC P w vA (cellsV vs) → (vs.length ≤ vc ∧ vc ≤ maxLen ∧ vs.length * 88 ≤ 140737488351232) → (∀ x ∈ vs, Vl.Inp P w x) →
    Vl.Inp P w (.mk n m sA sc ss cA cc cs vA vc vs)

theorem Ck.Inp.keep {P : Nat → Prop} {w w' : World} {k : Ck} (h : k.Inp P w) (hb : ∀ b, P b → w'.heap[b]? = w.heap[b]?) : k.Inp P w' := ⟨h.lies.keep hb, h.cap, h.top, h.nok, h.few⟩
theorem Ck.Inp.mono {P Q : Nat → Prop} {w : World} {k : Ck} (h : k.Inp P w) (hm : ∀ b, P b → Q b) : k.Inp Q w := ⟨h.lies.mono hm, h.cap, h.top, h.nok, h.few⟩

theorem Vl.Inp.keep {P : Nat → Prop} {w w' : World} {x : Vl} (h : x.Inp P w) (hb : ∀ b, P b → w'.heap[b]? = w.heap[b]?) : x.Inp P w' := by
  induction h with
  | mk n m sA sc ss cA cc cs vA vc vs h1 h2 h3 h4 h5 h6 h7 h8 h9 h10 _ ih => exact .mk _ _ _ _ _ _ _ _ _ _ _ h1 h2 (h3.keep hb) h4 h5 (h6.keep hb) h7 (fun k hk => (h8 k hk).keep hb) (h9.keep hb) h10 ih
theorem Vl.Inp.mono {P Q : Nat → Prop} {w : World} {x : Vl} (h : x.Inp P w) (hm : ∀ b, P b → Q b) : x.Inp Q w := by
  induction h with
  | mk n m sA sc ss cA cc cs vA vc vs h1 h2 h3 h4 h5 h6 h7 h8 h9 h10 _ ih => exact .mk _ _ _ _ _ _ _ _ _ _ _ h1 h2 (h3.mono hm) h4 h5 (h6.mono hm) h7 (fun k hk => (h8 k hk).mono hm) (h9.mono hm) h10 ih

/-- .. below the world's end. -/
def Vl.In (w : World) (x : Vl) : Prop := x.Inp (fun b => b < w.heap.size) w
theorem Vl.In.later {w w' : World} {x : Vl} (h : x.In w) (hb : Below w.heap.size w w') : x.In w' := (Vl.Inp.keep h fun b hlt => hb.block b hlt).mono fun _ hlt => Nat.lt_of_lt_of_le hlt hb.size

/-- What a value's lying says of its parts. -/
structure Parts (w : World) (n m : Int) (sA : Option Addr) (sc : Nat) (ss : List Str) (cA : Option Addr) (cc : Nat) (cs : List Ck) (vA : Option Addr) (vc : Nat) (vs : List Vl) : Prop where
  hn : 0 ≤ n ∧ n ≤ 18446744073709551615
  hm : 0 ≤ m ∧ m ≤ 18446744073709551615
  sl : Lies w sA ss
  sb : ss.length ≤ sc ∧ sc ≤ maxLen ∧ ss.length * 16 ≤ 140737488351232
  st : ∀ s ∈ ss, s.length ≤ maxLen
  cl : LiesC (fun b => b < w.heap.size) w cA (cellsC cs)
  cb : cs.length ≤ cc ∧ cc ≤ maxLen ∧ cs.length * 24 ≤ 140737488351232
  ck : ∀ k ∈ cs, In w k.A k.c k.l
  vl : LiesC (fun b => b < w.heap.size) w vA (cellsV vs)
  vb : vs.length ≤ vc ∧ vc ≤ maxLen ∧ vs.length * 88 ≤ 140737488351232
  vk : ∀ x ∈ vs, x.In w

theorem lies_of_cells {w : World} {A : Option Addr} {ss : List Str} (h : LiesC (fun b => b < w.heap.size) w A (cellsS ss)) : Lies w A ss := by
  rcases h with h | ⟨b, off, hA, hlt, h⟩
  · exact .inl (List.map_eq_nil_iff.1 h)
  · exact .inr ⟨b, off, hA, hlt, fun i x hx => h i _ (by unfold cellsS; rw [List.getElem?_map, hx]; rfl)⟩

theorem Ck.Inp.inn {w : World} {k : Ck} (h : k.Inp (fun b => b < w.heap.size) w) : In w k.A k.c k.l := by
  refine ⟨?_, h.cap, h.top, h.nok⟩
  rcases h.lies with h | ⟨b, off, hA, hlt, h⟩
  · refine .inl ?_
    have := congrArg List.length h
    rw [C3.cellsT_len] at this
    exact List.eq_nil_of_length_eq_zero (by simp at this; omega)
  · refine .inr ⟨b, off, hA, hlt, fun i x hx => ?_⟩
    obtain ⟨g0, g1⟩ := C3.cellsT_at hx
    exact ⟨h _ _ g0, by rw [Nat.add_assoc]; exact h _ _ g1⟩

theorem Vl.In.out {w : World} {n m : Int} {sA : Option Addr} {sc : Nat} {ss : List Str} {cA : Option Addr} {cc : Nat} {cs : List Ck} {vA : Option Addr} {vc : Nat} {vs : List Vl} (h : (Vl.mk n m sA sc ss cA cc cs vA vc vs).In w) :
    Parts w n m sA sc ss cA cc cs vA vc vs := by
  cases h with
  | mk _ _ _ _ _ _ _ _ _ _ _ h1 h2 h3 h4 h5 h6 h7 h8 h9 h10 h11 => exact ⟨h1, h2, lies_of_cells h3, h4, h5, h6, h7, fun k hk => (h8 k hk).inn, h9, h10, h11⟩

theorem LiesC.get {P : Nat → Prop} {w : World} {A : Option Addr} {cs : List Value} (h : LiesC P w A cs) {k : Nat} (hk : k < cs.length) : ∃ b off, A = some ⟨b, off, none⟩ ∧ P b ∧ ∀ i u, cs[i]? = some u → w.cell? ⟨b, off + i, none⟩ = some u := by
  rcases h with h | h
  · subst h; simp at hk
  · exact h

/-- The clock at place k. -/
theorem clock_at {P : Nat → Prop} {w : World} {A : Option Addr} {cs : List Ck} (h : LiesC P w A (cellsC cs)) {k : Nat} {x : Ck} (hx : cs[k]? = some x) : ∃ b off, A = some ⟨b, off, none⟩ ∧ P b ∧ w.cell? ⟨b, off + k, none⟩ = some x.v := by
  obtain ⟨b, off, hA, hb, hc⟩ := h.get (k := k) (by rw [cellsC_len]; exact (List.getElem?_eq_some_iff.1 hx).1)
  exact ⟨b, off, hA, hb, hc k _ (by unfold cellsC; rw [List.getElem?_map, hx]; rfl)⟩
/-- The value at place k. -/
theorem value_at {P : Nat → Prop} {w : World} {A : Option Addr} {vs : List Vl} (h : LiesC P w A (cellsV vs)) {k : Nat} {x : Vl} (hx : vs[k]? = some x) : ∃ b off, A = some ⟨b, off, none⟩ ∧ P b ∧
    w.cell? ⟨b, off + k * 5, none⟩ = some (.int .u64 x.n) ∧ w.cell? ⟨b, off + k * 5 + 1, none⟩ = some (.int .u64 x.m) ∧ w.cell? ⟨b, off + k * 5 + 2, none⟩ = some x.s1 ∧ w.cell? ⟨b, off + k * 5 + 3, none⟩ = some x.c1 ∧ w.cell? ⟨b, off + k * 5 + 4, none⟩ = some x.v1 := by
  have hk := (List.getElem?_eq_some_iff.1 hx).1
  obtain ⟨b, off, hA, hb, hc⟩ := h.get (k := k * 5) (by rw [cellsV_len]; omega)
  obtain ⟨h0, h1, h2, h3, h4⟩ := cellsV_at hx
  refine ⟨b, off, hA, hb, hc _ _ h0, ?_, ?_, ?_, ?_⟩
  · rw [Nat.add_assoc]; exact hc _ _ h1
  · rw [Nat.add_assoc]; exact hc _ _ h2
  · rw [Nat.add_assoc]; exact hc _ _ h3
  · rw [Nat.add_assoc]; exact hc _ _ h4

theorem LiesC.below {w w' : World} {A : Option Addr} {cs : List Value} (h : LiesC (fun b => b < w.heap.size) w A cs) (hb : Below w.heap.size w w') : LiesC (fun b => b < w.heap.size) w' A cs := h.keep fun b hlt => hb.block b hlt

/-- .. all in new memory. -/
def RetWN (w : World) (t : Va) (e : Ending) (w' : World) : Prop := ∃ x : Vl, e = .returned x.val ∧ x.er = t ∧ x.Inp (fun b => w.heap.size ≤ b ∧ b < w'.heap.size) w' ∧ Below w.heap.size w w'
end Go.Proofs.YtdbohojncbeajaaGreat.V4

namespace Go.Proofs.YtdbohojncbeajaaGreat.V4
open Go.RowKit Go.Shelf

/-- What lay lies as it lay: of what is below B just the cells, but for block D; from B on all. -/
structure KN (D B : Nat) (W W' : World) : Prop where
  size : W.heap.size ≤ W'.heap.size
  same : ∀ (b : Nat) (o : Obj), W.heap[b]? = some o → (o.isCells = true ∧ b ≠ D ∨ B ≤ b) → W'.heap[b]? = some o

theorem KN.refl (D B : Nat) (W : World) : KN D B W W := ⟨Nat.le_refl _, fun _ _ h _ => h⟩
theorem KN.trans {D B : Nat} {X Y Z : World} (h : KN D B X Y) (k : KN D B Y Z) : KN D B X Z := ⟨Nat.le_trans h.size k.size, fun b o h1 h2 => k.same b o (h.same b o h1 h2) h2⟩
theorem KN.mono {D B B' : Nat} {W W' : World} (h : KN D B W W') (hB : B ≤ B') : KN D B' W W' := ⟨h.size, fun b o h1 h2 => h.same b o h1 (h2.imp id fun h => Nat.le_trans hB h)⟩
theorem KN.of_below {D B : Nat} {W W' : World} (h : Below W.heap.size W W') : KN D B W W' := ⟨h.size, fun b _ h1 _ => (h.block b (Array.getElem?_eq_some_iff.1 h1).1).trans h1⟩
/-- Later on only what is new has turned. -/
theorem KN.later {D B : Nat} {W X Y : World} (h : KN D B W X) (hb : Below W.heap.size X Y) : KN D B W Y :=
  ⟨Nat.le_trans h.size hb.size, fun b o h1 h2 => (hb.block b (Array.getElem?_eq_some_iff.1 h1).1).trans (h.same b o h1 h2)⟩
theorem KN.put {D B l : Nat} {W : World} {o : Obj} (h : W.heap[l]? = some o) (ho : o.isCells = false) (hl : l < B) (o' : Obj) : KN D B W (W.putObj l o') :=
  ⟨by simp, fun b o2 h1 h2 => by
    have hne : b ≠ l := fun e => by
      subst e; rw [h] at h1; cases h1
      rcases h2 with ⟨h2, _⟩ | h2
      · rw [ho] at h2; cases h2
      · omega
    rw [World.putObj_heap_other hne]; exact h1⟩
theorem KN.cell {D B : Nat} {W W' : World} (h : KN D B W W') {b o : Nat} {v : Value} (hb : b ≠ D) (hc : W.cell? ⟨b, o, none⟩ = some v) : W'.cell? ⟨b, o, none⟩ = some v := by
  obtain ⟨ob, h1, h2⟩ := cells_of_cell hc
  exact (World.cell?_of_block (a := ⟨b, o, none⟩) ((h.same b ob h1 (.inl ⟨h2, hb⟩)).trans h1.symm)).trans hc
theorem KN.boxed {D B : Nat} {W W' : World} (h : KN D B W W') {b : Nat} {t : TypeId} {v : Value} (hb : b ≠ D) (hc : Boxed W b t v) : Boxed W' b t v := h.same b _ hc (.inl ⟨rfl, hb⟩)
/-- All from B on lies as it lay. -/
structure KF (B : Nat) (W W' : World) : Prop where
  size : W.heap.size ≤ W'.heap.size
  same : ∀ (b : Nat) (o : Obj), B ≤ b → W.heap[b]? = some o → W'.heap[b]? = some o
theorem KN.kf {D B : Nat} {W W' : World} (h : KN D B W W') : KF B W W' := ⟨h.size, fun b o h1 h2 => h.same b o h2 (.inr h1)⟩
theorem KF.trans {B : Nat} {X Y Z : World} (h : KF B X Y) (k : KF B Y Z) : KF B X Z := ⟨Nat.le_trans h.size k.size, fun b o h1 h2 => k.same b o h1 (h.same b o h1 h2)⟩
theorem KF.mono {B B' : Nat} {W W' : World} (h : KF B W W') (hB : B ≤ B') : KF B' W W' := ⟨h.size, fun b o h1 h2 => h.same b o (Nat.le_trans hB h1) h2⟩
theorem KF.later {B : Nat} {W X Y : World} (h : KF B W X) (hb : Below W.heap.size X Y) : KF B W Y :=
  ⟨Nat.le_trans h.size hb.size, fun b o h1 h2 => (hb.block b (Array.getElem?_eq_some_iff.1 h2).1).trans (h.same b o h1 h2)⟩
theorem KF.of_below {B : Nat} {W W' : World} (h : Below W.heap.size W W') : KF B W W' := (KN.of_below (D := 0) h).kf
theorem KF.put {B l : Nat} {W : World} (hl : l < B) (o' : Obj) : KF B W (W.putObj l o') := ⟨by simp, fun b o2 h1 h2 => by rw [World.putObj_heap_other (by omega)]; exact h2⟩
theorem KF.set {B b : Nat} {W : World} (hb : b < B) (v : Value) : KF B W (W.setCell ⟨b, 0, none⟩ v) := ⟨by simp, fun k o h1 h2 => (Below.heap_setCell _ _ _ _ (by simp only; omega)).trans h2⟩
theorem KF.boxed {B : Nat} {W W' : World} (h : KF B W W') {b : Nat} {t : TypeId} {v : Value} (hb : B ≤ b) (hc : Boxed W b t v) : Boxed W' b t v := h.same b _ hb hc
theorem KN.from {D B : Nat} {W W' : World} (h : KN D B W W') : KeepsFrom B W W' := ⟨h.size, fun b o h1 h2 _ => h.same b o h2 (.inr h1)⟩

/-- What is said of a world speaks of what lies below B alone. -/
def Ab {β : Type} (B : Nat) (J : β → World → Prop) : Prop := ∀ s W W', J s W → Below B W W' → J s W'
theorem Ab.and {β : Type} {B : Nat} {I J : β → World → Prop} (h : Ab B I) (k : Ab B J) : Ab B (fun s W => I s W ∧ J s W) := fun s W W' hs hb => ⟨h s W W' hs.1 hb, k s W W' hs.2 hb⟩
theorem Ab.up {β : Type} {B B' : Nat} {I : β → World → Prop} (h : Ab B I) (hB : B ≤ B') : Ab B' I := fun s W W' hs hb => h s W W' hs (hb.mono hB)
theorem Ab.pure {β : Type} (B : Nat) (p : β → Prop) : Ab B (fun s (_ : World) => p s) := fun _ _ _ h _ => h
theorem Ab.boxed {β : Type} {B b : Nat} (t : TypeId) (f : β → Value) (hb : b < B) : Ab B (fun s W => Boxed W b t (f s)) := fun _ _ _ hs h => (h.block b hb).trans hs
theorem Ab.cell {β : Type} {B : Nat} {a : Addr} (f : β → Value) (hb : a.block < B) : Ab B (fun s W => World.cell? W a = some (f s)) := fun _ _ _ hs h => (World.cell?_of_block (h.block _ hb)).trans hs
theorem Ab.below {β : Type} {B n : Nat} {w : World} (hn : n ≤ B) : Ab B (fun (_ : β) W => Below n w W) := fun _ _ _ hs h => hs.trans (h.mono hn)
theorem Ab.kf {β : Type} {B n : Nat} {w : World} (hn : w.heap.size ≤ B) : Ab B (fun (_ : β) W => KF n w W) := fun _ _ _ hs h => hs.later (h.mono hn)
theorem Ab.kn {β : Type} {B D n : Nat} {w : World} (hn : w.heap.size ≤ B) : Ab B (fun (_ : β) W => KN D n w W) := fun _ _ _ hs h => hs.later (h.mono hn)

/-- An iterator that gives zs, one by one, and goes on only behind one that is ok; what it asks of a round: KN. -/
def SeqO {α : Type} (P : Program) (g : Nat) (lb : Array Value) (encs : α → Array Value) (D : Nat) (ok : α → Prop) (zs : List α) (w : World) : Prop :=
  ∀ (l : Nat) (J Jx : Nat → World → Prop) (W : World), Below w.heap.size w W → Ab W.heap.size J → Ab W.heap.size Jx →
    (∀ k x W1, zs[k]? = some x → J k W1 → W.heap.size ≤ W1.heap.size → YieldAt Fence.wide 0 P l (encs x) W1 fun e W' =>
      (e = .returned (.bool true) ∧ J (k + 1) W' ∧ KN D W.heap.size W1 W' ∧ ok x) ∨ (e = .returned (.bool false) ∧ Jx k W' ∧ KF W.heap.size W1 W')) →
    J 0 W →
    Calls P g (#[.func (.yield l) #[] #[]] ++ lb) W fun e W' => (∃ v, e = .returned v) ∧ (J zs.length W' ∨ ∃ k, k < zs.length ∧ Jx k W')

theorem SeqO.later {α : Type} {P : Program} {g : Nat} {lb : Array Value} {encs : α → Array Value} {D : Nat} {ok : α → Prop} {zs : List α} {w w' : World} (h : SeqO P g lb encs D ok zs w) (hb : Below w.heap.size w w') : SeqO P g lb encs D ok zs w' :=
  fun l J Jx W hW => h l J Jx W (hb.trans (hW.mono hb.size))

theorem yield_any {m m' : Nat} {P : Program} {l : Nat} {args : Array Value} {W : World} {R : Ending → World → Prop} (h : YieldAt Fence.wide m P l args W R) : YieldAt Fence.wide m' P l args W R := by
  obtain ⟨fn, tmps, assign, body, h1, h2⟩ := h
  exact ⟨fn, tmps, assign, body, h1, h2.1, fun c cs _ => h2.2 c cs (room_wide _)⟩

/-- How a round's body may be left. -/
def postO {α : Type} (B D : Nat) (ok : α → Prop) (I : Nat → World → Prop) (Ix : Code → Nat → World → Prop) (k : Nat) (x : α) (W : World) : Exit → Act → World → Prop
  | .normal, _, W' => KN D B W W' ∧ I (k + 1) W' ∧ ok x
  | .ret, _, W' => KF B W W' ∧ Ix .ret k W'
  | .exit id, _, W' => KF B W W' ∧ Ix (.exit id) k W'
  | .goto t, _, W' => KF B W W' ∧ Ix (.goto t) k W'
  | .panic _, _, _ => False
  | .outgrown, _, _ => False

set_option maxHeartbeats 1000000 in
/-- The law. -/
theorem range_own {α : Type} {n : Nat} {P : Program} {g : Operand} {ps : Array Tmp} {assign body : Code} {Q : Exit → Act → World → Prop} {a : Act} {w : World}
    {gf : Nat} {lb : Array Value} (hg : a.eval g = .func (.func gf) #[] lb) (eg : Enters P gf)
    {encs : α → Array Value} {D : Nat} {ok : α → Prop} {zs : List α} (hseq : SeqO P gf lb encs D ok zs w) (hps : ∀ x, (encs x).size = ps.size)
    (I : Nat → World → Prop) (Ix : Code → Nat → World → Prop) (hI : Ab w.heap.size I) (hIx : ∀ c, Ab w.heap.size (Ix c)) (h0 : I 0 w)
    (Ax : α → Act → World → Prop) (hAx : ∀ x a', OwnFrom w.heap.size (fun (_ : Unit) W => Ax x a' W))
    (hassign : ∀ (l k : Nat) (x : α) (W : World) (K : Act → World → Prop), zs[k]? = some x → I k W → (∀ a' W', Below W.heap.size W W' → Ax x a' W' → K a' W') →
      assign.wpIn (Fence.wide.inRound l) 0 P (Exit.then K (fun _ _ _ => False)) { tmps := (ps.zip (encs x)).foldl (fun t (p, v) => t.setIfInBounds p v) a.tmps, defers := [] } W)
    (hbody : ∀ (l k : Nat) (x : α) (a' : Act) (W : World), w.heap.size ≤ W.heap.size → zs[k]? = some x → I k W → Ax x a' W → body.wpIn (Fence.wide.inRound l) 0 P (postO w.heap.size D ok I Ix k x W) a' W)
    (hdone : ∀ (E : Nat) (W : World), w.heap.size ≤ E → I zs.length W → W.heap[E]? = some (.deferred (some [])) → Q .normal { a with defers := { target := .collected E, args := #[] } :: a.defers } W)
    (hstop : ∀ (E : Nat) (c : Code) (k : Nat) (W : World), w.heap.size ≤ E → k < zs.length → Ix c k W → W.heap[E]? = some (.deferred (some [])) → c.wpIn Fence.wide n P Q { a with defers := { target := .collected E, args := #[] } :: a.defers } W) :
    (Code.rangeFunc g ps assign body).wpIn Fence.wide n P Q a w := by
  refine wpIn_rangeFunc fun fn hfn => ?_
  show ∃ _ _ _ _ _ _ _ _, _
  obtain ⟨R, hR⟩ : ∃ R : LoopState → Option Code → Obj, R = fun st pe => .loop { state := st, pending := pe, fn, tmps := a.tmps, params := ps, assign, body, defers := w.heap.size } := ⟨_, rfl⟩
  have hRc : ∀ st pe, (R st pe).isCells = false := fun st pe => by rw [hR]; rfl
  obtain ⟨V, hV⟩ : ∃ V, (w.alloc (.deferred (some []))).alloc (R .ready none) = V := ⟨_, rfl⟩
  have hsz : V.heap.size = w.heap.size + 2 := by rw [← hV]; simp
  have hbV : Below w.heap.size w V := by rw [← hV]; exact ((Below.refl _ w).alloc (Nat.le_refl _) _).alloc (by simp) _
  have hrec : V.heap[w.heap.size + 1]? = some (R .ready none) := by
    rw [← hV]; have := World.alloc_heap_new (w.alloc (.deferred (some []))) (R .ready none); rwa [World.size_alloc] at this
  have hdef : V.heap[w.heap.size]? = some (.deferred (some [])) := by
    rw [← hV]; exact (Below.heap_alloc _ _ _ (by simp)).trans (World.alloc_heap_new w _)
  -- a turn of the record leaves what is below
  have turn : ∀ (X : World) (o : Obj), Below w.heap.size X (X.putObj (w.heap.size + 1) o) := fun X o =>
    ⟨rfl, rfl, rfl, by simp, fun k hk => World.putObj_heap_other (by omega)⟩
  refine ⟨w.heap.size + 1, [{ target := .collected w.heap.size, args := #[] }], V, { target := .fn (.func gf) lb, args := #[.func (.yield (w.heap.size + 1)) #[] #[]] }, V, gf,
    #[.func (.yield (w.heap.size + 1)) #[] #[]] ++ lb, V, ?_, ?_, ?_, ?_, fun h => absurd h (by simp [Fence.wide]), callsIn_wide.2 ?_⟩
  · rw [← hV, hR]; exact run_enterLoop_outer _ _ _ _ _
  · simp only [resolve, hg]
    simp [go_sem]
  · intro f' _; trivial
  · simp [invoke, go_sem]
    exact eg _ _
  · refine (hseq (w.heap.size + 1)
      (fun k W => I k W ∧ W.heap[w.heap.size + 1]? = some (R .ready none) ∧ W.heap[w.heap.size]? = some (.deferred (some [])))
      (fun k W => ∃ c, Ix c k W ∧ W.heap[w.heap.size + 1]? = some (R .done (some c)) ∧ W.heap[w.heap.size]? = some (.deferred (some [])))
      V hbV ?_ ?_ ?_ ⟨hI _ _ _ h0 hbV, hrec, hdef⟩).mono ?_
    · rintro k X Y ⟨h1, h2, h3⟩ hb
      exact ⟨hI _ _ _ h1 (hb.mono (by omega)), (hb.block _ (by omega)).trans h2, (hb.block _ (by omega)).trans h3⟩
    · rintro k X Y ⟨c, h1, h2, h3⟩ hb
      exact ⟨c, hIx c _ _ _ h1 (hb.mono (by omega)), (hb.block _ (by omega)).trans h2, (hb.block _ (by omega)).trans h3⟩
    · rintro k x X hx ⟨hi, hl, hd⟩ hXs
      have hy := run_yield (P := P) (args := encs x) (l := w.heap.size + 1) (by rw [hR] at hl; exact hl) (hps x)
      refine ⟨fn, _, assign, body, hy, roundIn_of_wpIn trivial (hassign _ k x X _ hx hi ?_)⟩
      intro a' Y hbY hax
      have hlY : Y.heap[w.heap.size + 1]? = some (R .ready none) := (hbY.block _ (by omega)).trans hl
      have hdY : Y.heap[w.heap.size]? = some (.deferred (some [])) := (hbY.block _ (by omega)).trans hd
      have hltY : w.heap.size + 1 < Y.heap.size := (Array.getElem?_eq_some_iff.1 hlY).1
      have hbeg : (Instr.beginRound (w.heap.size + 1)).run P Y = .ok () (Y.putObj (w.heap.size + 1) (R .busy none)) := by
        rw [hR] at hlY ⊢
        exact run_beginRound hlY rfl
      refine ⟨_, hbeg, ?_⟩
      have hiZ : I k (Y.putObj (w.heap.size + 1) (R .busy none)) := hI _ _ _ hi ((hbY.mono (by omega)).trans (turn _ _))
      have hlZ : (Y.putObj (w.heap.size + 1) (R .busy none)).heap[w.heap.size + 1]? = some (R .busy none) := World.putObj_heap_same hltY
      have hdZ : (Y.putObj (w.heap.size + 1) (R .busy none)).heap[w.heap.size]? = some (.deferred (some [])) := (World.putObj_heap_other (by omega)).trans hdY
      have hkZ : KN D V.heap.size X (Y.putObj (w.heap.size + 1) (R .busy none)) := (KN.of_below hbY).trans (KN.put hlY (hRc _ _) (by omega) _)
      have hfin : ∀ (jump : Option Code) (Z : World), Z.heap[w.heap.size + 1]? = some (R .busy none) →
          (Instr.endRound (w.heap.size + 1) jump).run P Z = .ok (.bool jump.isNone) (Z.putObj (w.heap.size + 1) (R (if jump.isNone then .ready else .done) jump)) := fun jump Z hz => by
        rw [hR] at hz ⊢
        exact run_endRound jump hz
      refine wpIn_mono (hbody _ k x a' _ (by simp; omega) hx hiZ ((hAx x a').putObj (s := ()) _ hax (by omega) hlY (hRc _ _))) ?_
      have leave : ∀ (c : Code) (Z : World), KF w.heap.size (Y.putObj (w.heap.size + 1) (R .busy none)) Z → Ix c k Z → ∃ v w', (Instr.endRound (w.heap.size + 1) (some c)).run P Z = .ok v w' ∧
          ((Ending.returned v = .returned (.bool true) ∧ (I (k + 1) w' ∧ w'.heap[w.heap.size + 1]? = some (R .ready none) ∧ w'.heap[w.heap.size]? = some (.deferred (some []))) ∧ KN D V.heap.size X w' ∧ ok x) ∨
            (Ending.returned v = .returned (.bool false) ∧ (∃ c, Ix c k w' ∧ w'.heap[w.heap.size + 1]? = some (R .done (some c)) ∧ w'.heap[w.heap.size]? = some (.deferred (some []))) ∧ KF V.heap.size X w')) := fun c Z hk hi => by
        have h1 := hk.same _ _ (by omega) hlZ
        have h2 := hk.same _ _ (Nat.le_refl _) hdZ
        exact ⟨_, _, hfin (some c) Z h1, .inr ⟨rfl, ⟨c, hIx c _ _ _ hi (turn _ _), World.putObj_heap_same (Array.getElem?_eq_some_iff.1 h1).1, (World.putObj_heap_other (by omega)).trans h2⟩,
          hkZ.kf.trans ((hk.mono (by omega)).trans (KF.put (by omega) _))⟩⟩
      rintro e a3 Z hp
      cases e with
      | normal =>
        obtain ⟨hk, hi3, hok⟩ := hp
        have h1 := hk.from.same _ _ (by omega) hlZ (hRc _ _)
        have h2 := hk.from.same _ _ (Nat.le_refl _) hdZ rfl
        exact ⟨_, _, hfin none Z h1, .inl ⟨rfl, ⟨hI _ _ _ hi3 (turn _ _), World.putObj_heap_same (Array.getElem?_eq_some_iff.1 h1).1, (World.putObj_heap_other (by omega)).trans h2⟩,
          hkZ.trans ((hk.mono (by omega)).trans (KN.put h1 (hRc _ _) (by omega) _)), hok⟩⟩
      | ret => exact leave .ret Z hp.1 hp.2
      | exit id => exact leave (.exit id) Z hp.1 hp.2
      | goto t => exact leave (.goto t) Z hp.1 hp.2
      | panic ch => exact hp.elim
      | outgrown => exact hp.elim
    · rintro e X ⟨⟨v, rfl⟩, ⟨hi, hl, hd⟩ | ⟨k, hk, c, hi, hl, hd⟩⟩
      · refine ⟨none, _, by rw [hR] at hl; exact run_endLoop hl (by simp), ?_⟩
        exact hdone _ _ (Nat.le_refl _) (hI _ _ _ hi (turn _ _)) ((World.putObj_heap_other (by omega)).trans hd)
      · refine ⟨some c, _, by rw [hR] at hl; exact run_endLoop hl (by simp), ?_⟩
        exact hstop _ c k _ (Nat.le_refl _) hk (hIx c _ _ _ hi (turn _ _)) ((World.putObj_heap_other (by omega)).trans hd)

/-- A tree of what is nested. -/
inductive Nd (β : Type) where
  | mk (x : β) (l : List (Nd β))

def Nd.lab {β : Type} : Nd β → β | .mk x _ => x
def Nd.kids {β : Type} : Nd β → List (Nd β) | .mk _ l => l

theorem Nd.ind {β : Type} {P : Nd β → Prop} (h : ∀ x l, (∀ t ∈ l, P t) → P (.mk x l)) : ∀ t, P t := fun t =>
  Nd.rec (motive_1 := P) (motive_2 := fun l => ∀ t ∈ l, P t) (fun x l ih => h x l ih) (by simp) (fun x l hx hl y hy => by
    rcases List.mem_cons.1 hy with rfl | h'
    · exact hx
    · exact hl y h') t

mutual
/-- All of it, each ahead of what is in it. -/
def Nd.pre {β : Type} : Nd β → List β
  | .mk x l => x :: Nd.preL l
def Nd.preL {β : Type} : List (Nd β) → List β
  | [] => []
  | t :: l => t.pre ++ Nd.preL l
end

theorem preL_append {β : Type} (a b : List (Nd β)) : Nd.preL (a ++ b) = Nd.preL a ++ Nd.preL b := by
  induction a with
  | nil => rfl
  | cons x a ih => rw [List.cons_append, Nd.preL, ih, Nd.preL, List.append_assoc]
theorem preL_snoc {β : Type} {l : List (Nd β)} {k : Nat} {t : Nd β} (hx : l[k]? = some t) : Nd.preL (l.take (k + 1)) = Nd.preL (l.take k) ++ t.pre := by
  obtain ⟨hk, he⟩ := List.getElem?_eq_some_iff.1 hx
  rw [List.take_succ_eq_append_getElem hk, he, preL_append, Nd.preL, Nd.preL, List.append_nil]
theorem preL_split {β : Type} {l : List (Nd β)} {k : Nat} {t : Nd β} (hx : l[k]? = some t) : Nd.preL l = Nd.preL (l.take k) ++ (t.pre ++ Nd.preL (l.drop (k + 1))) := by
  obtain ⟨hk, he⟩ := List.getElem?_eq_some_iff.1 hx
  conv => lhs; rw [← List.take_append_drop k l]
  rw [preL_append, List.drop_eq_getElem_cons hk, he, Nd.preL]

/-- zs has ys from place k on. -/
def At {β : Type} (zs : List β) (k : Nat) (ys : List β) : Prop := ∀ i y, ys[i]? = some y → zs[k + i]? = some y
theorem At.left {β : Type} {zs : List β} {k : Nat} {a b : List β} (h : At zs k (a ++ b)) : At zs k a := fun i y hy => h i y (by rw [List.getElem?_append_left (List.getElem?_eq_some_iff.1 hy).1]; exact hy)
theorem At.right {β : Type} {zs : List β} {k : Nat} {a b : List β} (h : At zs k (a ++ b)) : At zs (k + a.length) b := fun i y hy => by
  have := h (a.length + i) y (by rw [List.getElem?_append_right (by omega)]; simpa using hy)
  rw [Nat.add_assoc]; exact this
theorem At.all {β : Type} (zs : List β) : At zs 0 zs := fun i y hy => by rw [Nat.zero_add]; exact hy
end Go.Proofs.YtdbohojncbeajaaGreat.V4

namespace Go.Proofs.YtdbohojncbeajaaGreat.V4
open Go.RowKit Go.Shelf
open S2 (Sc LiesP)

/-- All blocks but D. -/
def Bar (D b : Nat) : Prop := b ≠ D

theorem LiesC.kn {D B : Nat} {W W' : World} {A : Option Addr} {cs : List Value} (h : LiesC (Bar D) W A cs) (hk : KN D B W W') : LiesC (Bar D) W' A cs := by
  rcases h with h | ⟨b, off, hA, hP, h⟩
  · exact .inl h
  · exact .inr ⟨b, off, hA, hP, fun i x hx => hk.cell hP (h i x hx)⟩
theorem Ck.Inp.kn {D B : Nat} {W W' : World} {k : Ck} (h : k.Inp (Bar D) W) (hk : KN D B W W') : k.Inp (Bar D) W' := ⟨h.lies.kn hk, h.cap, h.top, h.nok, h.few⟩
theorem Vl.Inp.kn {D B : Nat} {W W' : World} {x : Vl} (h : x.Inp (Bar D) W) (hk : KN D B W W') : x.Inp (Bar D) W' := by
  induction h with
  | mk n m sA sc ss cA cc cs vA vc vs h1 h2 h3 h4 h5 h6 h7 h8 h9 h10 _ ih => exact .mk _ _ _ _ _ _ _ _ _ _ _ h1 h2 (h3.kn hk) h4 h5 (h6.kn hk) h7 (fun k hk' => (h8 k hk').kn hk) (h9.kn hk) h10 ih
theorem LiesP_kn {D B : Nat} {W W' : World} {A : Option Addr} {l : List Sc} (h : LiesP (Bar D) W A l) (hk : KN D B W W') : LiesP (Bar D) W' A l := by
  rcases h with h | ⟨b, off, hA, hP, h⟩
  · exact .inl h
  · exact .inr ⟨b, off, hA, hP, fun i x hx => ⟨hk.cell hP (h i x hx).1, hk.cell hP (h i x hx).2⟩⟩
theorem sc_kn {D B : Nat} {W W' : World} {s : Sc} (h : s.Inp (Bar D) W) (hk : KN D B W W') : s.Inp (Bar D) W' := by
  induction h with
  | mk k A c l hl h1 h2 h3 _ ih => exact .mk k A c l (LiesP_kn hl hk) h1 h2 h3 ih

/-- What lies lies below the world's end. -/
theorem LiesC.lt {P : Nat → Prop} {W : World} {A : Option Addr} {cs : List Value} (h : LiesC P W A cs) : LiesC (fun b => b < W.heap.size) W A cs := by
  cases cs with
  | nil => exact .inl rfl
  | cons u cs =>
    rcases h with h | ⟨b, off, hA, _, h⟩
    · cases h
    · exact .inr ⟨b, off, hA, World.block_lt_of_cell? W _ (h 0 u rfl), h⟩
theorem Vl.Inp.inn {P : Nat → Prop} {W : World} {x : Vl} (h : x.Inp P W) : x.In W := by
  unfold Vl.In
  induction h with
  | mk n m sA sc ss cA cc cs vA vc vs h1 h2 h3 h4 h5 h6 h7 h8 h9 h10 _ ih => exact .mk _ _ _ _ _ _ _ _ _ _ _ h1 h2 h3.lt h4 h5 h6.lt h7 (fun k hk => ⟨(h8 k hk).lies.lt, (h8 k hk).cap, (h8 k hk).top, (h8 k hk).nok, (h8 k hk).few⟩) h9.lt h10 ih
theorem sc_inn {P : Nat → Prop} {W : World} {s : Sc} (h : s.Inp P W) : s.In W.heap.size W := by
  unfold S2.Sc.In
  induction h with
  | mk k A c l hl h1 h2 h3 _ ih =>
    refine .mk k A c l ?_ h1 h2 h3 ih
    cases l with
    | nil => exact .inl rfl
    | cons u l =>
      rcases hl with h | ⟨b, off, hA, _, h⟩
      · cases h
      · exact .inr ⟨b, off, hA, World.block_lt_of_cell? W _ (h 0 u rfl).1, h⟩
theorem Vl.In.bar {W : World} {x : Vl} {D : Nat} (h : x.In W) (hD : W.heap.size ≤ D) : x.Inp (Bar D) W := Vl.Inp.mono h fun b hb => by unfold Bar; omega
theorem sc_bar {n D : Nat} {W : World} {s : Sc} (h : s.In n W) (hD : n ≤ D) : s.Inp (Bar D) W := S2.Sc.Inp.mono h fun b hb => by unfold Bar; omega

def Vl.vs : Vl → List Vl | .mk _ _ _ _ _ _ _ _ _ _ vs => vs
def Vl.cs : Vl → List Ck | .mk _ _ _ _ _ _ _ cs _ _ _ => cs
def Vl.ss : Vl → List Str | .mk _ _ _ _ ss _ _ _ _ _ _ => ss

/-- The schema of the value at place i. -/
def scAt (l : List Sc) (i : Nat) : Sc := (l[min i (l.length - 1)]?).getD (.mk 0 none 0 [])

mutual
/-- Values with their schemas. -/
def treeT : Vl → Sc → Nd (Sc × Vl)
  | .mk n m sA sc ss cA cc cs vA vc vs, s => .mk (s, .mk n m sA sc ss cA cc cs vA vc vs) (treeTL vs s.ins 0)
def treeTL : List Vl → List Sc → Nat → List (Nd (Sc × Vl))
  | [], _, _ => []
  | x :: l, ins, i => treeT x (scAt ins i) :: treeTL l ins (i + 1)
end
mutual
/-- Values beside values. -/
def treeC : Vl → Vl → Nd (Vl × Vl)
  | .mk n m sA sc ss cA cc cs vA vc vs, b => .mk (.mk n m sA sc ss cA cc cs vA vc vs, b) (treeCL vs b.vs)
def treeCL : List Vl → List Vl → List (Nd (Vl × Vl))
  | [], _ => []
  | x :: l, y :: l' => treeC x y :: treeCL l l'
  | _ :: _, [] => []
end

theorem treeTL_at : ∀ (l : List Vl) (ins : List Sc) (j i : Nat), (treeTL l ins j)[i]? = (l[i]?).map fun x => treeT x (scAt ins (j + i))
  | [], _, _, _ => by simp [treeTL]
  | x :: l, ins, j, 0 => by simp [treeTL]
  | x :: l, ins, j, i + 1 => by
    simp only [treeTL, List.getElem?_cons_succ]
    rw [treeTL_at l ins (j + 1) i, show j + 1 + i = j + (i + 1) by omega]
theorem treeT_mk (v : Vl) (s : Sc) : treeT v s = .mk (s, v) (treeTL v.vs s.ins 0) := by cases v; rw [treeT]; rfl
theorem treeT_lab (v : Vl) (s : Sc) : (treeT v s).lab = (s, v) := by rw [treeT_mk]; rfl
theorem treeCL_zip : ∀ (l l' : List Vl), treeCL l l' = List.zipWith treeC l l'
  | [], _ => by simp [treeCL]
  | _ :: _, [] => by simp [treeCL]
  | x :: l, y :: l' => by rw [treeCL, treeCL_zip l l']; rfl
theorem treeC_mk (a b : Vl) : treeC a b = .mk (a, b) (List.zipWith treeC a.vs b.vs) := by cases a; rw [treeC, treeCL_zip]; rfl
theorem treeC_lab (a b : Vl) : (treeC a b).lab = (a, b) := by rw [treeC_mk]; rfl

/-- What stands in a value, with its schema. -/
def kidsT (x : Sc × Vl) : List (Sc × Vl) := (List.range x.2.vs.length).zipWith (fun i v => (scAt x.1.ins i, v)) x.2.vs
def kidsC (x : Vl × Vl) : List (Vl × Vl) := x.1.vs.zip x.2.vs

theorem kidsT_at (x : Sc × Vl) (i : Nat) : (kidsT x)[i]? = (x.2.vs[i]?).map fun v => (scAt x.1.ins i, v) := by
  unfold kidsT
  rw [List.getElem?_zipWith]
  rcases Nat.lt_or_ge i x.2.vs.length with h | h
  · rw [List.getElem?_range h, List.getElem?_eq_getElem h]; rfl
  · rw [List.getElem?_eq_none h, List.getElem?_eq_none (by simpa using h)]; rfl
theorem kidsT_len (x : Sc × Vl) : (kidsT x).length = x.2.vs.length := by simp [kidsT]
theorem kidsT_lab (x : Sc × Vl) : (treeTL x.2.vs x.1.ins 0).map Nd.lab = kidsT x := by
  refine List.ext_getElem? fun i => ?_
  rw [List.getElem?_map, treeTL_at, kidsT_at]
  cases x.2.vs[i]? <;> simp [treeT_lab]
theorem kidsC_lab (x : Vl × Vl) : (List.zipWith treeC x.1.vs x.2.vs).map Nd.lab = kidsC x := by
  have h : ∀ l l' : List Vl, (List.zipWith treeC l l').map Nd.lab = l.zip l' := fun l => by
    induction l with
    | nil => intro l'; simp
    | cons y l ih => intro l'; cases l' with
      | nil => simp
      | cons z l' => simp [treeC_lab, ih l']
  exact h _ _
end Go.Proofs.YtdbohojncbeajaaGreat.V4

namespace Go.Proofs.YtdbohojncbeajaaGreat.V4
open Go.RowKit
open C3 (Tk Asc isC ofC cmpC Nok In belAl allocB drewB RetT)

/-- Does a clock come ahead of another one in a row? -/
def aheadC : List Tk → List Tk → Bool
  | [], [] => false
  | [], _ :: _ => true
  | _ :: _, [] => false
  | x :: a, y :: b => if x.k = y.k then (if x.n = y.n then aheadC a b else decide (x.n < y.n)) else decide (x.k < y.k)

theorem aheadC_drop {a b : List Tk} {i : Nat} {x y : Tk} (hx : a[i]? = some x) (hy : b[i]? = some y) : aheadC (a.drop i) (b.drop i) = if x.k = y.k then (if x.n = y.n then aheadC (a.drop (i + 1)) (b.drop (i + 1)) else decide (x.n < y.n)) else decide (x.k < y.k) := by
  obtain ⟨hi, he⟩ := List.getElem?_eq_some_iff.1 hx
  obtain ⟨hj, hf⟩ := List.getElem?_eq_some_iff.1 hy
  rw [List.drop_eq_getElem_cons hi, List.drop_eq_getElem_cons hj, he, hf, aheadC]
theorem aheadC_end {a b : List Tk} {i : Nat} (h : a.length ≤ i ∨ b.length ≤ i) (h1 : i ≤ a.length) (h2 : i ≤ b.length) : aheadC (a.drop i) (b.drop i) = decide (a.length < b.length) := by
  by_cases ha : i = a.length
  · subst ha
    rw [List.drop_length]
    by_cases hb : a.length = b.length
    · rw [hb, List.drop_length]; simp [aheadC]
    · cases hd : b.drop a.length with
      | nil => have := congrArg List.length hd; simp at this; omega
      | cons y l => rw [aheadC]; exact (decide_eq_true (by omega)).symm
  · have hb : i = b.length := by omega
    subst hb
    rw [List.drop_length]
    cases hd : a.drop b.length with
    | nil => have := congrArg List.length hd; simp at this; omega
    | cons y l => rw [aheadC]; exact (decide_eq_false (by omega)).symm

end Go.Proofs.YtdbohojncbeajaaGreat.V4

namespace Go.Proofs.YtdbohojncbeajaaGreat.R1
open Go.RowKit

end Go.Proofs.YtdbohojncbeajaaGreat.R1

namespace Go.Proofs.YtdbohojncbeajaaGreat.R1

theorem str_irrefl (a : Str) : ¬ a < a := List.lt_irrefl a
theorem str_trans {a b c : Str} (h : a < b) (k : b < c) : a < c := List.lt_trans h k
theorem str_asymm {a b : Str} (h : a < b) : ¬ b < a := fun k => str_irrefl a (str_trans h k)
theorem ne_of_slt {a b : Str} (h : a < b) : a ≠ b := by rintro rfl; exact str_irrefl _ h
theorem str_tri (a b : Str) : a < b ∨ a = b ∨ b < a := by
  by_cases h1 : a < b
  · exact .inl h1
  · by_cases h2 : b < a
    · exact .inr (.inr h2)
    · exact .inr (.inl (List.le_antisymm (List.not_lt.1 h2) (List.not_lt.1 h1)))

theorem bl_true {a b : Str} (h : a < b) : Op.bytesLess a b = true := by rw [bytesLess_eq]; simpa using h
theorem bl_false {a b : Str} (h : ¬ a < b) : Op.bytesLess a b = false := by rw [bytesLess_eq]; simpa using h

/-- A row that rises. -/
abbrev Srt (xs : List Str) : Prop := xs.Pairwise (· < ·)

theorem srt_snoc {xs : List Str} {j : Nat} {x y : Str} (h : Srt (xs.take (j + 1))) (hx : xs[j]? = some x) (hy : xs[j + 1]? = some y) (hlt : x < y) : Srt (xs.take (j + 1 + 1)) := by
  obtain ⟨hk, he⟩ := List.getElem?_eq_some_iff.1 hy
  obtain ⟨hk0, he0⟩ := List.getElem?_eq_some_iff.1 hx
  rw [List.take_succ_eq_append_getElem hk, he]
  refine List.pairwise_append.2 ⟨h, List.pairwise_singleton _ _, ?_⟩
  intro a ha b hb
  rw [List.mem_singleton] at hb
  subst hb
  rw [List.take_succ_eq_append_getElem hk0, he0] at h ha
  rcases List.mem_append.1 ha with h1 | h1
  · exact str_trans ((List.pairwise_append.1 h).2.2 a h1 x (List.mem_singleton.2 rfl)) hlt
  · rw [List.mem_singleton] at h1
    subst h1
    exact hlt

theorem srt_no {xs : List Str} {j : Nat} {x y : Str} (hx : xs[j]? = some x) (hy : xs[j + 1]? = some y) (hlt : ¬ x < y) : ¬ Srt xs := by
  intro h
  obtain ⟨hk, he⟩ := List.getElem?_eq_some_iff.1 hy
  obtain ⟨hk0, he0⟩ := List.getElem?_eq_some_iff.1 hx
  have := List.pairwise_iff_getElem.1 h j (j + 1) hk0 hk (by omega)
  rw [he, he0] at this
  exact hlt this

theorem srt_take_one (xs : List Str) : Srt (xs.take 1) := by
  cases xs <;> simp [Srt]

theorem srt_all {xs : List Str} {k : Nat} (h : Srt (xs.take k)) (hk : xs.length ≤ k) : Srt xs := by rwa [List.take_of_length_le hk] at h
end Go.Proofs.YtdbohojncbeajaaGreat.R1

namespace Go.Proofs.YtdbohojncbeajaaGreat.R1
open Go.RowKit

end Go.Proofs.YtdbohojncbeajaaGreat.R1

namespace Go.Proofs.YtdbohojncbeajaaGreat.V4
open Go.RowKit
open C3 (Tk Asc isC ofC cmpC Nok In belAl allocB drewB RetT)

theorem map_take_succ {α β : Type} {f : α → β} {l l' : List α} {i : Nat} {x y : α} (h0 : (l.take i).map f = (l'.take i).map f) (hx : l[i]? = some x) (hy : l'[i]? = some y) (he : f x = f y) : (l.take (i + 1)).map f = (l'.take (i + 1)).map f := by
  obtain ⟨hi, hx'⟩ := List.getElem?_eq_some_iff.1 hx
  obtain ⟨hj, hy'⟩ := List.getElem?_eq_some_iff.1 hy
  rw [List.take_succ_eq_append_getElem hi, List.take_succ_eq_append_getElem hj, List.map_append, List.map_append, h0, hx', hy', List.map_singleton, List.map_singleton, he]
theorem map_take_all {α β : Type} {f : α → β} {l l' : List α} {i : Nat} (h0 : (l.take i).map f = (l'.take i).map f) (hi : l.length ≤ i) (hj : l'.length ≤ i) : l.map f = l'.map f := by
  rwa [List.take_of_length_le hi, List.take_of_length_le hj] at h0
theorem map_ne_at {α β : Type} {f : α → β} {l l' : List α} {i : Nat} {x y : α} (hx : l[i]? = some x) (hy : l'[i]? = some y) (he : f x ≠ f y) : l.map f ≠ l'.map f := by
  intro e
  have := congrArg (fun z => z[i]?) e
  simp only [List.getElem?_map, hx, hy, Option.map_some] at this
  exact he (Option.some.inj this)

end Go.Proofs.YtdbohojncbeajaaGreat.V4
