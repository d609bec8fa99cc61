/- Schemas in memory. No condition. -/
import Derived.Test.YtohmgidmfabimaaRows
import Derived.Test.YtohmgidmfabimaaWords
import Derived.Test.YtohmgidmfabimaaTr
namespace Go.Proofs.Ytohmgidmfabimaa
open Go.RowKit

/-- A schema where it lies: its kind, where its list begins, the list's capacity, what is in it. -/
inductive Sc where
  | mk (k : Int) (A : Option Addr) (c : Nat) (ins : List Sc)

def Sc.k : Sc → Int | .mk k _ _ _ => k
def Sc.A : Sc → Option Addr | .mk _ A _ _ => A
def Sc.c : Sc → Nat | .mk _ _ c _ => c
def Sc.ins : Sc → List Sc | .mk _ _ _ l => l
def Sc.val : Sc → Value | .mk k A c l => .agg #[.int .i64 k, .slice A l.length c]
def Sc.v1 : Sc → Value | .mk _ A c l => .slice A l.length c

theorem val_mk (k : Int) (A : Option Addr) (c : Nat) (l : List Sc) : (Sc.mk k A c l).val = .agg #[.int .i64 k, .slice A l.length c] := rfl

theorem Sc.ind {P : Sc → Prop} (h : ∀ k A c l, (∀ x ∈ l, P x) → P (.mk k A c l)) : ∀ t, P t := fun t =>
  Sc.rec (motive_1 := P) (motive_2 := fun l => ∀ x ∈ l, P x) (fun k A c l ih => h k A c l ih) (by simp) (fun x l hx hl y hy => by
    rcases List.mem_cons.1 hy with rfl | h'
    · exact hx
    · exact hl y h') t

mutual
/-- What it is, wherever it lies. -/
def Sc.er : Sc → Tr
  | .mk k _ _ l => .mk k (Sc.erL l)
def Sc.erL : List Sc → List Tr
  | [] => []
  | x :: l => x.er :: Sc.erL l
end

theorem erL_map : ∀ l, Sc.erL l = l.map Sc.er
  | [] => rfl
  | x :: l => by rw [Sc.erL, erL_map l, List.map_cons]
theorem er_mk (k : Int) (A : Option Addr) (c : Nat) (l : List Sc) : (Sc.mk k A c l).er = .mk k (l.map Sc.er) := by rw [Sc.er, erL_map]
theorem er_k (s : Sc) : s.er.k = s.k := by cases s; rw [er_mk]; rfl
theorem er_ins (s : Sc) : s.er.ins = s.ins.map Sc.er := by cases s; rw [er_mk]; rfl
theorem erL_len (l : List Sc) : (l.map Sc.er).length = l.length := by simp

/-- The schemas xs lie, one behind the other, from A on, in a block that P lets. -/
def LiesP (P : Nat → Prop) (w : World) (A : Option Addr) (xs : List Sc) : Prop :=
  xs = [] ∨ ∃ b off, A = some ⟨b, off, none⟩ ∧ P b ∧ ∀ i x, xs[i]? = some x →
    w.cell? ⟨b, off + i * 2, none⟩ = some (.int .i64 x.k) ∧ w.cell? ⟨b, off + i * 2 + 1, none⟩ = some x.v1

/-- All of it lies in w, in blocks that P lets. -/
inductive Sc.Inp (P : Nat → Prop) (w : World) : Sc → Prop
  | mk (k : Int) (A : Option Addr) (c : Nat) (l : List Sc) : LiesP P w A l → l.length ≤ c → c ≤ 9223372036854775807 → l.length * 32 ≤ 140737488351232 → (∀ x ∈ l, Sc.Inp P w x) → Sc.Inp P w (.mk k A c l)

theorem LiesP.nil {P : Nat → Prop} {w : World} {A : Option Addr} : LiesP P w A [] := .inl rfl

theorem LiesP.keep {P : Nat → Prop} {w w' : World} {A : Option Addr} {xs : List Sc} (h : LiesP P w A xs) (hb : ∀ b, P b → w'.heap[b]? = w.heap[b]?) : LiesP P w' A xs := by
  rcases h with h | ⟨b, off, hA, hlt, h⟩
  · exact .inl h
  · exact .inr ⟨b, off, hA, hlt, fun i x hx => ⟨(World.cell?_of_block (a := ⟨b, _, none⟩) (hb b hlt)).trans (h i x hx).1, (World.cell?_of_block (a := ⟨b, _, none⟩) (hb b hlt)).trans (h i x hx).2⟩⟩

theorem LiesP.mono {P Q : Nat → Prop} {w : World} {A : Option Addr} {xs : List Sc} (h : LiesP P w A xs) (hm : ∀ b, P b → Q b) : LiesP Q w A xs := by
  rcases h with h | ⟨b, off, hA, hlt, h⟩
  · exact .inl h
  · exact .inr ⟨b, off, hA, hm b hlt, h⟩

theorem Sc.Inp.keep {P : Nat → Prop} {w w' : World} {s : Sc} (h : s.Inp P w) (hb : ∀ b, P b → w'.heap[b]? = w.heap[b]?) : s.Inp P w' := by
  induction h with
  | mk k A c l hl h1 h2 h3 _ ih => exact .mk k A c l (hl.keep hb) h1 h2 h3 ih

theorem Sc.Inp.mono {P Q : Nat → Prop} {w : World} {s : Sc} (h : s.Inp P w) (hm : ∀ b, P b → Q b) : s.Inp Q w := by
  induction h with
  | mk k A c l hl h1 h2 h3 _ ih => exact .mk k A c l (hl.mono hm) h1 h2 h3 ih

/-- .. below block n. -/
def LiesS (n : Nat) (w : World) (A : Option Addr) (xs : List Sc) : Prop := LiesP (fun b => b < n) w A xs
def Sc.In (n : Nat) (w : World) (s : Sc) : Prop := s.Inp (fun b => b < n) w

theorem LiesS.nil {n : Nat} {w : World} {A : Option Addr} : LiesS n w A [] := .inl rfl
theorem LiesS.below {n : Nat} {w w' : World} {A : Option Addr} {xs : List Sc} (h : LiesS n w A xs) (hb : Below n w w') : LiesS n w' A xs := LiesP.keep h fun b h => hb.block b h
theorem LiesS.up {n m : Nat} {w : World} {A : Option Addr} {xs : List Sc} (h : LiesS n w A xs) (hm : n ≤ m) : LiesS m w A xs := LiesP.mono h fun _ h => Nat.lt_of_lt_of_le h hm

theorem LiesS.get {n : Nat} {w : World} {A : Option Addr} {xs : List Sc} (h : LiesS n w A xs) {k : Nat} (hk : k < xs.length) :
    ∃ b off, A = some ⟨b, off, none⟩ ∧ b < n ∧ ∀ i x, xs[i]? = some x →
      w.cell? ⟨b, off + i * 2, none⟩ = some (.int .i64 x.k) ∧ w.cell? ⟨b, off + i * 2 + 1, none⟩ = some x.v1 := by
  rcases h with h | h
  · subst h; simp at hk
  · exact h

theorem Sc.In.keep {n : Nat} {w w' : World} {s : Sc} (h : s.In n w) (hb : Below n w w') : s.In n w' := Sc.Inp.keep h fun b h => hb.block b h
theorem Sc.In.up {n m : Nat} {w : World} {s : Sc} (h : s.In n w) (hm : n ≤ m) : s.In m w := Sc.Inp.mono h fun _ h => Nat.lt_of_lt_of_le h hm

theorem Sc.In.out {n : Nat} {w : World} {k : Int} {A : Option Addr} {c : Nat} {l : List Sc} (h : (Sc.mk k A c l).In n w) :
    LiesS n w A l ∧ l.length ≤ c ∧ l.length * 32 ≤ 140737488351232 ∧ ∀ x ∈ l, x.In n w := by
  cases h with
  | mk _ _ _ _ h1 h2 _ h3 h4 => exact ⟨h1, h2, h3, h4⟩

/-- In a later world, whatever was there is as it was. -/
theorem Sc.In.later {w w' : World} {s : Sc} (h : s.In w.heap.size w) (hb : Below w.heap.size w w') : s.In w'.heap.size w' := (h.keep hb).up hb.size

/-- A call that answers a schema that is t. -/
def RetS (w : World) (t : Tr) (e : Ending) (w' : World) : Prop :=
  ∃ s : Sc, e = .returned s.val ∧ s.er = t ∧ s.In w'.heap.size w' ∧ Below w.heap.size w w'

/-- A call that answers a schema that is t, all in new memory. -/
def RetN (w : World) (t : Tr) (e : Ending) (w' : World) : Prop :=
  ∃ s : Sc, e = .returned s.val ∧ s.er = t ∧ s.Inp (fun b => w.heap.size ≤ b ∧ b < w'.heap.size) w' ∧ Below w.heap.size w w'

theorem allocB (w : World) (o : Obj) : Below w.heap.size w (w.alloc o) := (Below.refl _ w).alloc (Nat.le_refl _) o
theorem callV {w w1 : World} {f : FuncId} {args : Array Value} {v : Value} (h : Below w.heap.size w w1) (hc : Calls Try.prog f args w1 (RetV w1 v)) : Calls Try.prog f args w1 (RetV w v) :=
  hc.mono fun _ _ ⟨h1, h2⟩ => ⟨h1, h.trans (h2.mono h.size)⟩
end Go.Proofs.Ytohmgidmfabimaa
