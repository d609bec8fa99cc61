/- What the reference's short and has do. No condition but that the texts lie in memory. What the reference's fits does. No condition but that the value lies in memory. What the reference's functions on schemas do: arity, deep, isSchema. No condition but that the schema lies in memory. What the reference's deep does. No condition but that the schema lies in memory. What the reference's isSchema does. No condition but that the schema lies in memory. What the reference's SameSchema does. No condition but that the schemas lie in memory. What the reference's Cause, Level, IsSchema, Deep do. No condition but that the schema lies in memory. What the reference's Bottom and None do. No condition but that what they take lies in memory. -/
import Derived.Test.YtdbohojncbeajaaGreatMo02
import Derived.Test.YtdbohojncbeajaaGreatMo01
import Derived.StillTailTactics
namespace Go.Proofs.YtdbohojncbeajaaGreat.V4
open Go.RowKit
open C3 (Tk Asc isC ofC cmpC Nok In belAl allocB drewB RetT)

/-- No text of more than 16 bytes. -/
def shortV (ss : List Str) : Bool := ss.all fun s => decide (s.length ≤ 16)

theorem all_succ {α : Type} {p : α → Bool} {l : List α} {k : Nat} {x : α} (h0 : (l.take k).all p = true) (hx : l[k]? = some x) (h : p x = true) : (l.take (k + 1)).all p = true := by
  obtain ⟨hi, he⟩ := List.getElem?_eq_some_iff.1 hx
  rw [List.take_succ_eq_append_getElem hi, List.all_append, h0, he]
  simp [h]
theorem all_end {α : Type} {p : α → Bool} {l : List α} {k : Nat} (h0 : (l.take k).all p = true) (h : l.length ≤ k) : l.all p = true := by rwa [List.take_of_length_le h] at h0
theorem all_fail {α : Type} {p : α → Bool} {l : List α} {k : Nat} {x : α} (hx : l[k]? = some x) (h : p x = false) : l.all p = false := by
  rw [List.all_eq_false]
  exact ⟨x, List.mem_of_getElem? hx, by simp [h]⟩

theorem S_size (x : Str) : (S x).size = x.length := by simp [S, ByteArray.size]

/-- Has a value no parts but these? By its numbers and its lists' lengths. -/
def hasN (n m : Int) (a b d : Nat) (p q r s t : Bool) : Bool := (p || decide (n = 0)) && ((q || decide (m = 0)) && ((r || decide (a = 0)) && ((s || decide (b = 0)) && (t || decide (d = 0)))))

end Go.Proofs.YtdbohojncbeajaaGreat.V4

namespace Go.Proofs.YtdbohojncbeajaaGreat.V4
open Go.RowKit
open C3 (Tk Asc isC ofC cmpC Nok In belAl allocB drewB RetT)

def hasV (x : Va) (p q r s t : Bool) : Bool := hasN x.n x.m x.s.length x.c.length x.v.length p q r s t

/-- Has a value the parts that its kind has, whatever is in them? -/
def fitsV (k : Int) (x : Va) : Bool :=
  if k = 1 then hasV x true false false false false
  else if k = 2 then hasV x true false false false false && decide (x.n ≤ 1)
  else if k = 3 then hasV x false false true false false && shortV x.s
  else if k = 4 then hasV x false false true false true && (shortV x.s && decide (x.s.length = x.v.length))
  else if k = 5 then hasV x false false false false true && decide (x.v.length = 2)
  else if k = 6 then (if x.s.length = 0 then hasV x false false false false false else hasV x true true true false false && (decide (x.s.length = 1) && (shortV x.s && (decide (x.n ≠ 0) || (decide (x.m ≠ 0) || decide (x.s ≠ [[]]))))))
  else if k = 7 then hasV x false false false true false && decide (x.c.length ≤ 1)
  else hasV x false false false true true && decide (x.c.length = x.v.length)

theorem fits_1 (n m : Int) (s : List Str) (c : List (List Tk)) (v : List Va) : fitsV 1 (.mk n m s c v) = (hasN n m s.length c.length v.length true false false false false) := by unfold fitsV; rw [if_pos rfl]; rfl
theorem fits_2 (n m : Int) (s : List Str) (c : List (List Tk)) (v : List Va) : fitsV 2 (.mk n m s c v) = (hasN n m s.length c.length v.length true false false false false && decide (n ≤ 1)) := by unfold fitsV; rw [if_neg (by decide), if_pos rfl]; rfl
theorem fits_3 (n m : Int) (s : List Str) (c : List (List Tk)) (v : List Va) : fitsV 3 (.mk n m s c v) = (hasN n m s.length c.length v.length false false true false false && shortV s) := by unfold fitsV; rw [if_neg (by decide), if_neg (by decide), if_pos rfl]; rfl
theorem fits_4 (n m : Int) (s : List Str) (c : List (List Tk)) (v : List Va) : fitsV 4 (.mk n m s c v) = (hasN n m s.length c.length v.length false false true false true && (shortV s && decide (s.length = v.length))) := by unfold fitsV; rw [if_neg (by decide), if_neg (by decide), if_neg (by decide), if_pos rfl]; rfl
theorem fits_5 (n m : Int) (s : List Str) (c : List (List Tk)) (v : List Va) : fitsV 5 (.mk n m s c v) = (hasN n m s.length c.length v.length false false false false true && decide (v.length = 2)) := by unfold fitsV; rw [if_neg (by decide), if_neg (by decide), if_neg (by decide), if_neg (by decide), if_pos rfl]; rfl
theorem fits_6 (n m : Int) (s : List Str) (c : List (List Tk)) (v : List Va) : fitsV 6 (.mk n m s c v) = (if s.length = 0 then hasN n m s.length c.length v.length false false false false false else hasN n m s.length c.length v.length true true true false false && (decide (s.length = 1) && (shortV s && (decide (n ≠ 0) || (decide (m ≠ 0) || decide (s ≠ [[]])))))) := by unfold fitsV; rw [if_neg (by decide), if_neg (by decide), if_neg (by decide), if_neg (by decide), if_neg (by decide), if_pos rfl]; rfl
theorem fits_7 (n m : Int) (s : List Str) (c : List (List Tk)) (v : List Va) : fitsV 7 (.mk n m s c v) = (hasN n m s.length c.length v.length false false false true false && decide (c.length ≤ 1)) := by unfold fitsV; rw [if_neg (by decide), if_neg (by decide), if_neg (by decide), if_neg (by decide), if_neg (by decide), if_neg (by decide), if_pos rfl]; rfl

theorem fits_ne {n m : Int} (k : Int) {s : List Str} {c : List (List Tk)} {v : List Va} (h1 : k ≠ 1) (h2 : k ≠ 2) (h3 : k ≠ 3) (h4 : k ≠ 4) (h5 : k ≠ 5) (h6 : k ≠ 6) (h7 : k ≠ 7) : fitsV k (.mk n m s c v) = (hasN n m s.length c.length v.length false false false true true && decide (c.length = v.length)) := by
  unfold fitsV hasV
  rw [if_neg h1, if_neg h2, if_neg h3, if_neg h4, if_neg h5, if_neg h6, if_neg h7]
  rfl

end Go.Proofs.YtdbohojncbeajaaGreat.V4

namespace Go.Proofs.YtdbohojncbeajaaGreat.S2
open Go.RowKit

end Go.Proofs.YtdbohojncbeajaaGreat.S2

namespace Go.Proofs.YtdbohojncbeajaaGreat.S2
open Go.RowKit

end Go.Proofs.YtdbohojncbeajaaGreat.S2

namespace Go.Proofs.YtdbohojncbeajaaGreat.S2
open Go.RowKit

theorem isT_succ (n : Nat) (k : Int) (A : Option Addr) (c : Nat) (l : List Sc) : isT (n + 1) (Sc.mk k A c l).er = (decide ((l.length : Int) = arI k) && l.all fun x => isT n x.er) := by
  rw [isT, er_ins, er_k]
  simp only [Sc.ins, Sc.k, List.length_map, List.all_map]
  rfl

theorem all_take_succ {p : Sc → Bool} {l : List Sc} {k : Nat} {x : Sc} (h0 : (l.take k).all p = true) (hx : l[k]? = some x) (h : p x = true) : (l.take (k + 1)).all p = true := by
  obtain ⟨hk, he⟩ := List.getElem?_eq_some_iff.1 hx
  rw [List.take_succ_eq_append_getElem hk, he, List.all_append, h0]
  simp [h]
end Go.Proofs.YtdbohojncbeajaaGreat.S2

namespace Go.Proofs.YtdbohojncbeajaaGreat.S2
open Go.RowKit

end Go.Proofs.YtdbohojncbeajaaGreat.S2

namespace Go.Proofs.YtdbohojncbeajaaGreat.S2
open Go.RowKit

/-- The cells that hold the schemas. -/
def cellsS (xs : List Sc) : List Value := xs.flatMap fun x => [.int .i64 x.k, x.v1]

theorem cellsS_append (xs ys : List Sc) : cellsS (xs ++ ys) = cellsS xs ++ cellsS ys := by simp [cellsS]

theorem cellsS_at {xs : List Sc} {i : Nat} {x : Sc} (h : xs[i]? = some x) : (cellsS xs)[i * 2]? = some (.int .i64 x.k) ∧ (cellsS xs)[i * 2 + 1]? = some x.v1 := by
  induction xs generalizing i with
  | nil => simp at h
  | cons y xs ih =>
    cases i with
    | zero => simp at h; subst h; simp [cellsS]
    | succ i =>
      have := ih (i := i) (by simpa using h)
      have e : (i + 1) * 2 = i * 2 + 1 + 1 := by omega
      rw [e]
      simpa [cellsS] using this

theorem results_cellS {fn : Func} {p : Tmp} (h : fn.results = #[.cell p 37]) (tmps : Array Value) (w : World) (g : Nat) (v0 v1 : Value) (hp : tmps.getD p undef = .pointer (some ⟨g, 0, none⟩))
    (h0 : w.cell? ⟨g, 0, none⟩ = some v0) (h1 : w.cell? ⟨g, 1, none⟩ = some v1) : (results fn tmps).run Tryz.prog w = .ok (.agg #[v0, v1]) w := by
  have hp' : tmps[p]?.getD undef = .pointer (some ⟨g, 0, none⟩) := by simpa using hp
  simp [results, h, hp', asAddr]
  go_simp

theorem belAl {w w' : World} {o : Obj} (h : Below w.heap.size w w') : Below w.heap.size w (w'.alloc o) := h.alloc h.size o
end Go.Proofs.YtdbohojncbeajaaGreat.S2

namespace Go.Proofs.YtdbohojncbeajaaGreat.V4
open Go.RowKit
open C3 (Tk Asc isC ofC cmpC Nok In belAl allocB drewB RetT)
open S2 (Tr Sc isT)

/-- The value by a schema that has nothing. -/
def botT : Tr → Va
  | .mk k [a, b] => if isT 16 (.mk k [a, b]) = true ∧ k = 5 then .mk 0 0 [] [] [botT a, botT b] else .zero
  | .mk _ _ => .zero

theorem botT_pair {a b : Tr} (h : isT 16 (.mk 5 [a, b]) = true) : botT (.mk 5 [a, b]) = .mk 0 0 [] [] [botT a, botT b] := by rw [botT, if_pos ⟨h, rfl⟩]
theorem botT_zero {t : Tr} (h : ¬ (isT 16 t = true ∧ t.k = 5)) : botT t = .zero := by
  obtain ⟨k, l⟩ := t
  match l with
  | [] => rw [botT]; simp
  | [x] => rw [botT]; simp
  | [a, b] => rw [botT]; exact if_neg h
  | x :: y :: z :: l => rw [botT]; simp

theorem isT_len {n : Nat} {k : Int} {l : List Tr} (h : isT n (.mk k l) = true) : (l.length : Int) = S2.arI k := by
  cases n with
  | zero => simp [isT] at h
  | succ n => rw [isT] at h; rw [Bool.and_eq_true] at h; exact of_decide_eq_true h.1

theorem two_of_len {α : Type} : ∀ {l : List α}, l.length = 2 → ∃ x y, l = [x, y]
  | [x, y], _ => ⟨x, y, rfl⟩

theorem inp_zero (P : Nat → Prop) (w : World) : (Vl.mk 0 0 none 0 [] none 0 [] none 0 []).Inp P w :=
  .mk _ _ _ _ _ _ _ _ _ _ _ (by omega) (by omega) .nil (by simp [maxLen]) (by simp) .nil (by simp [maxLen]) (by simp) .nil (by simp [maxLen]) (by simp)

theorem results_cellV {fn : Func} {p : Tmp} (h : fn.results = #[.cell p 29]) (tmps : Array Value) (w : World) (g : Nat) (v0 v1 v2 v3 v4 : Value) (hp : tmps.getD p undef = .pointer (some ⟨g, 0, none⟩))
    (h0 : w.cell? ⟨g, 0, none⟩ = some v0) (h1 : w.cell? ⟨g, 1, none⟩ = some v1) (h2 : w.cell? ⟨g, 2, none⟩ = some v2) (h3 : w.cell? ⟨g, 3, none⟩ = some v3) (h4 : w.cell? ⟨g, 4, none⟩ = some v4) : (results fn tmps).run Tryz.prog w = .ok (.agg #[v0, v1, v2, v3, v4]) w := by
  have hp' : tmps[p]?.getD undef = .pointer (some ⟨g, 0, none⟩) := by simpa using hp
  simp [results, h, hp', asAddr]
  go_simp

def cells5 (x : Vl) : List Value := [.int .u64 x.n, .int .u64 x.m, x.s1, x.c1, x.v1]

end Go.Proofs.YtdbohojncbeajaaGreat.V4
