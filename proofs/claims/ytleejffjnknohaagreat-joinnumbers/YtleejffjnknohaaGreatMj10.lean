/- What schema.Same does. No condition but that the schemas lie in memory. Rows of schemas that a call owns, and append onto them; what schema.fresh does. No condition but that the schema lies in memory. What schema.renewed and schema.fresh do. No condition but that the schema lies in memory. What schema.fresh does. No condition but that the schema lies in memory. What schema.Cause does. No condition but that the schema lies in memory. What schema.descend gives: a schema and all that is in it, in order. No condition but that the schema lies in memory. -/
import Derived.Test.YtleejffjnknohaaGreatMj09
import Derived.Deep.RegionLaw
import Derived.Deep.DeepCutAuto
import Derived.RangeFuncNested
import Derived.RangeFuncBound
import Derived.RangeFuncCalls
import Derived.RangeFuncLeaves
import Derived.Shelf.Abstract
import Derived.Shelf.RegionOpen
import Derived.OwnWalkIn
import Derived.TacticsInMore
import Derived.LoopNIn
import Derived.LoopIn
import Derived.Sort.QuietIn
namespace Go.Proofs.YtleejffjnknohaaGreat.S2
open Go.RowKit

theorem erL_eq_all {l l' : List Sc} {i : Nat} (h0 : (l.take i).map Sc.er = (l'.take i).map Sc.er) (hi : l.length ≤ i) (hi' : l'.length ≤ i) : decide (l.map Sc.er = l'.map Sc.er) = true := by
  rw [List.take_of_length_le hi, List.take_of_length_le hi'] at h0
  exact decide_eq_true h0
theorem erL_ne_at {l l' : List Sc} {i : Nat} {x x' : Sc} (hx : l[i]? = some x) (hx' : l'[i]? = some x') (h : decide (x.er = x'.er) = false) : decide (l.map Sc.er = l'.map Sc.er) = false := by
  refine decide_eq_false fun e => of_decide_eq_false h ?_
  have := congrArg (fun z => z[i]?) e
  simpa [hx, hx'] using this
theorem erL_ne_len {l l' : List Sc} (h : l.length ≠ l'.length) : decide (l.map Sc.er = l'.map Sc.er) = false := by
  refine decide_eq_false fun e => h ?_
  have := congrArg List.length e
  simpa using this

end Go.Proofs.YtleejffjnknohaaGreat.S2

namespace Go.Proofs.YtleejffjnknohaaGreat.S2
open Go.RowKit

theorem Tryz.infoSch : (Tryz.prog.info? 24).map (fun i => (i.zero, i.size, i.bytes)) = some (some (.agg #[.int .i64 0, .slice none 0 0]), 2, 32) := by kernel_rfl

section
variable (w : World) {o : Oper} {a : Act} {K : Act → World → Prop} {Q : Exit → Act → World → Prop}

/-- append onto a row of the call's own; where the row lies is told. -/
theorem wp_appAt (s x : Operand) (t : TypeId) (ho : o.op = .call { callee := .builtin .append, args := #[s, x], argTypes := #[t, t] })
    (base : Nat) (e : TypeId) (i : TypeInfo) (z : Value) (size bytes : Nat) (ht : Tryz.prog.underlying t = some (.slice e)) (hi : Tryz.prog.info? e = some i) (hz : i.zero = some z) (hsize : i.size = size) (hby : i.bytes = bytes) (hzs : z.cells.size = size) (hsz : 0 < size)
    (v : Value) (n : Nat) (xs : List Value) (hs : a.eval s = v) (hown : w.ownsRow base e size v n xs)
    (ad : Addr) (m c : Nat) (news : List Value) (hx : a.eval x = .slice (some ad) m c) (hl : news.length = m * size) (hnews : ∀ j u, news[j]? = some u → w.cell? (ad.add j) = some u) (h1 : ∀ u ∈ news, u.oneCell' = true)
    (h63 : n + m ≤ maxLen) (hbytes : (n + m) * bytes ≤ 140737488355328) (hbase : base ≤ w.heap.size)
    (h : ∀ v' w', w'.ownsRow base e size v' (n + m) (xs ++ news) → w.grownBy w' v.ownBlock → (v'.ownBlock = v.ownBlock ∨ v'.ownBlock = some w.heap.size) → K (a.put o.dst v') w') : o.wp Tryz.prog a w K Q := by
  obtain ⟨v', w', hr, h2, h3, -, h4⟩ := run_append_own_at (P := Tryz.prog) w base t o.type e i z size bytes ht hi hz hsize hby hzs hsz v n xs hown ad m c news hl hnews h1 h63 hbytes hbase
  unfold Oper.wp execOp
  simp only [ho, resolve, invoke, builtin, Sem.run_bind, Sem.run_pure, Result.andThen_ok, List.map_toArray, List.map_cons, List.map_nil, hs, hx, hr]
  exact h v' w' h2 h3 h4

theorem wpList_appAt {ops : Array Oper} {rest : List Oper} (hgd : o.guard = none) (s x : Operand) (t : TypeId) (ho : o.op = .call { callee := .builtin .append, args := #[s, x], argTypes := #[t, t] })
    (base : Nat) (e : TypeId) (i : TypeInfo) (z : Value) (size bytes : Nat) (ht : Tryz.prog.underlying t = some (.slice e)) (hi : Tryz.prog.info? e = some i) (hz : i.zero = some z) (hsize : i.size = size) (hby : i.bytes = bytes) (hzs : z.cells.size = size) (hsz : 0 < size)
    (v : Value) (n : Nat) (xs : List Value) (hs : a.eval s = v) (hown : w.ownsRow base e size v n xs)
    (ad : Addr) (m c : Nat) (news : List Value) (hx : a.eval x = .slice (some ad) m c) (hl : news.length = m * size) (hnews : ∀ j u, news[j]? = some u → w.cell? (ad.add j) = some u) (h1 : ∀ u ∈ news, u.oneCell' = true)
    (h63 : n + m ≤ maxLen) (hbytes : (n + m) * bytes ≤ 140737488355328) (hbase : base ≤ w.heap.size)
    (h : ∀ v' w', w'.ownsRow base e size v' (n + m) (xs ++ news) → w.grownBy w' v.ownBlock → (v'.ownBlock = v.ownBlock ∨ v'.ownBlock = some w.heap.size) → wpList Tryz.prog ops Q rest (a.put o.dst v') w') : wpList Tryz.prog ops Q (o :: rest) a w :=
  wpList_plain hgd fun _ hK => wp_appAt w s x t ho base e i z size bytes ht hi hz hsize hby hzs hsz v n xs hs hown ad m c news hx hl hnews h1 h63 hbytes hbase fun v' w' h2 h3 h4 => hK _ _ (h v' w' h2 h3 h4)
end

/-- The value v is a slice of the call's own (from block 'base' on), or nil, and holds the schemas ys; what is in them lies in other new blocks. -/
structure OwnS (w : World) (base : Nat) (v : Value) (ys : List Sc) : Prop where
  row : w.ownsRow base 24 2 v ys.length (cellsS ys)
  all : ∀ y ∈ ys, y.Inp (fun b => base ≤ b ∧ b < w.heap.size ∧ some b ≠ v.ownBlock) w

theorem OwnS.nil (w : World) (base : Nat) : OwnS w base (.slice none 0 0) [] := ⟨World.ownsRow_nil w base _ _, by simp⟩

theorem OwnS.below {w w' : World} {base : Nat} {v : Value} {ys : List Sc} (h : OwnS w base v ys) (hb : Below w.heap.size w w') : OwnS w' base v ys := by
  refine ⟨World.ownsRow.kept h.row (row := none) ⟨hb.os, hb.tape, hb.output, hb.size, fun k hk _ => hb.block k hk⟩ ?_, fun y hy => ?_⟩
  · cases hv : v.ownBlock with
    | none => exact .inl rfl
    | some k => exact .inr (by simp)
  · exact (Sc.Inp.keep (h.all y hy) fun b hP => hb.block b hP.2.1).mono fun b hP => ⟨hP.1, Nat.lt_of_lt_of_le hP.2.1 hb.size, hP.2.2⟩

theorem OwnS.appended {w w' : World} {base : Nat} {v v' : Value} {ys : List Sc} {s : Sc} (h : OwnS w base v ys) (hs : s.Inp (fun b => base ≤ b ∧ b < w.heap.size ∧ some b ≠ v.ownBlock) w)
    (hrow : w'.ownsRow base 24 2 v' (ys.length + 1) (cellsS ys ++ [.int .i64 s.k, s.v1])) (hg : w.grownBy w' v.ownBlock) (hat : v'.ownBlock = v.ownBlock ∨ v'.ownBlock = some w.heap.size) : OwnS w' base v' (ys ++ [s]) := by
  refine ⟨?_, fun y hy => ?_⟩
  · rw [cellsS_append, List.length_append]
    simpa [cellsS] using hrow
  · have hy' : y.Inp (fun b => base ≤ b ∧ b < w.heap.size ∧ some b ≠ v.ownBlock) w := by
      rcases List.mem_append.1 hy with h1 | h1
      · exact h.all y h1
      · rw [List.mem_singleton.1 h1]; exact hs
    refine (hy'.keep fun b hP => hg.block b hP.2.1 hP.2.2).mono fun b hP => ⟨hP.1, Nat.lt_of_lt_of_le hP.2.1 hg.size, ?_⟩
    rcases hat with e | e
    · rw [e]; exact hP.2.2
    · rw [e]; intro e'; have := Option.some.inj e'; omega

/-- A slice of the call's own, as the list of a schema. -/
theorem OwnS.form {w : World} {base : Nat} {v : Value} {ys : List Sc} (h : OwnS w base v ys) (hlen : ys.length * 32 ≤ 140737488351232) : ∃ A c, v = .slice A ys.length c ∧ ∀ k, (Sc.mk k A c ys).Inp (fun b => base ≤ b ∧ b < w.heap.size) w := by
  have hall : ∀ y ∈ ys, y.Inp (fun b => base ≤ b ∧ b < w.heap.size) w := fun y hy => (h.all y hy).mono fun b hP => ⟨hP.1, hP.2.1⟩
  rcases h.row.2 with ⟨rfl, h0⟩ | ⟨g, cap, cur, rfl, hb, hg, hnc, hcm, hcs, ht⟩
  · have : ys = [] := List.eq_nil_of_length_eq_zero h0
    subst this
    exact ⟨none, 0, rfl, fun k => .mk _ _ _ _ LiesP.nil (by simp) (by simp) (by simp) (by simp)⟩
  · have hlt : g < w.heap.size := (Array.getElem?_eq_some_iff.1 hg).1
    refine ⟨_, cap, rfl, fun k => .mk _ _ _ _ (.inr ⟨g, 0, rfl, ⟨hb, hlt⟩, fun i x hx => ?_⟩) hnc (by unfold maxLen at hcm; omega) hlen hall⟩
    obtain ⟨h1, h2⟩ := cellsS_at hx
    have e1 := World.ownsRow.cells h.row (g := g) rfl _ _ h1
    have e2 := World.ownsRow.cells h.row (g := g) rfl _ _ h2
    rw [Addr.add_lit] at e1 e2
    exact ⟨e1, by rw [show 0 + i * 2 + 1 = 0 + (i * 2 + 1) by omega]; exact e2⟩
end Go.Proofs.YtleejffjnknohaaGreat.S2

namespace Go.Proofs.YtleejffjnknohaaGreat.S2
open Go.RowKit

/-- A call that answers a slice of schemas, all in new memory. -/
def RetNL (w : World) (ts : List Tr) (e : Ending) (w' : World) : Prop :=
  ∃ v ys, e = .returned v ∧ ys.map Sc.er = ts ∧ OwnS w' w.heap.size v ys ∧ Below w.heap.size w w'

theorem cell_two {w : World} {t : TypeId} {u v : Value} : ∀ j x, [u, v][j]? = some x → (w.alloc (.cells #[u, v] t)).cell? ((⟨w.heap.size, 0, none⟩ : Addr).add j) = some x := by
  intro j x hx
  rw [Addr.add_lit]
  match j, hx with
  | 0, hx => simp at hx; subst hx; simp
  | 1, hx => simp at hx; subst hx; simp

theorem map_er_snoc {l ys : List Sc} {k : Nat} {x s : Sc} (h : ys.map Sc.er = (l.take k).map Sc.er) (hx : l[k]? = some x) (hs : s.er = x.er) : (ys ++ [s]).map Sc.er = (l.take (k + 1)).map Sc.er := by
  obtain ⟨hk, he⟩ := List.getElem?_eq_some_iff.1 hx
  rw [List.take_succ_eq_append_getElem hk, he, List.map_append, List.map_append, h]
  simp [hs]

theorem er_len {l ys : List Sc} {k : Nat} (h : ys.map Sc.er = (l.take k).map Sc.er) (hk : k ≤ l.length) : ys.length = k := by
  have := congrArg List.length h
  simp at this
  omega

end Go.Proofs.YtleejffjnknohaaGreat.S2

namespace Go.Proofs.YtleejffjnknohaaGreat.S2
open Go.RowKit

end Go.Proofs.YtleejffjnknohaaGreat.S2

namespace Go.Proofs.YtleejffjnknohaaGreat.S2
open Go.RowKit

theorem drewB (w : World) : Below w.heap.size w w.drew := (Below.refl _ _).drew

/-- Where Cause stands when the pair is made. -/
structure MidC (w W : World) (pb b2 : Nat) (x y : Sc) : Prop where
  bel : Below w.heap.size w W
  hx : x.Inp (fun b => w.heap.size + 1 + 1 ≤ b ∧ b < W.heap.size) W
  hy : y.Inp (fun b => w.heap.size + 1 + 1 ≤ b ∧ b < W.heap.size) W
  q1 : w.heap.size + 1 + 1 ≤ b2
  q2 : b2 < W.heap.size
  c0 : W.cell? ⟨b2, 0, none⟩ = some (.int .i64 x.k)
  c1 : W.cell? ⟨b2, 1, none⟩ = some x.v1
  c2 : W.cell? ⟨b2, 2, none⟩ = some (.int .i64 y.k)
  c3 : W.cell? ⟨b2, 3, none⟩ = some y.v1
  d0 : W.cell? ⟨pb, 0, none⟩ = some (.int .i64 5)
  d1 : W.cell? ⟨pb, 1, none⟩ = some (.slice (some ⟨b2, 0, none⟩) 2 2)
  r0 : W.cell? ⟨w.heap.size + 1, 0, none⟩ = some (.int .i64 0)
  r1 : W.cell? ⟨w.heap.size + 1, 1, none⟩ = some (.slice none 0 0)
  f0 : W.frozen? ⟨w.heap.size + 1, 0, none⟩ = false
  f1 : W.frozen? ⟨w.heap.size + 1, 1, none⟩ = false

theorem mid_of {w wl wf W : World} {pb b2 : Nat} {x y : Sc} {PL PS : Nat → Prop} (hL : x.Inp PL wl) (hS : y.Inp PS wf) (hbW : Below w.heap.size w W) (hlf : ∀ b, b < wl.heap.size → wf.heap[b]? = wl.heap[b]?)
    (hLp : ∀ b, PL b → w.heap.size + 1 + 1 ≤ b ∧ b < wl.heap.size ∧ b ≠ pb) (hSp : ∀ b, PS b → w.heap.size + 1 + 1 ≤ b ∧ b < wf.heap.size ∧ b ≠ pb) (hsz : wl.heap.size ≤ wf.heap.size) (hsW : wf.heap.size ≤ W.heap.size)
    (hW : ∀ b, b < wf.heap.size → b ≠ pb → W.heap[b]? = wf.heap[b]?) (hp1 : w.heap.size + 1 + 1 ≤ pb) (hlt : w.heap.size + 1 < wf.heap.size)
    (hw0 : wf.cell? ⟨w.heap.size + 1, 0, none⟩ = some (.int .i64 0)) (hw1 : wf.cell? ⟨w.heap.size + 1, 1, none⟩ = some (.slice none 0 0)) (hw2 : wf.frozen? ⟨w.heap.size + 1, 0, none⟩ = false) (hw3 : wf.frozen? ⟨w.heap.size + 1, 1, none⟩ = false)
    (q1 : w.heap.size + 1 + 1 ≤ b2) (q2 : b2 < W.heap.size) (c0 : W.cell? ⟨b2, 0, none⟩ = some (.int .i64 x.k)) (c1 : W.cell? ⟨b2, 1, none⟩ = some x.v1) (c2 : W.cell? ⟨b2, 2, none⟩ = some (.int .i64 y.k)) (c3 : W.cell? ⟨b2, 3, none⟩ = some y.v1)
    (d0 : W.cell? ⟨pb, 0, none⟩ = some (.int .i64 5)) (d1 : W.cell? ⟨pb, 1, none⟩ = some (.slice (some ⟨b2, 0, none⟩) 2 2)) : MidC w W pb b2 x y := by
  have hr := hW (w.heap.size + 1) hlt (by omega)
  refine ⟨hbW, ?_, ?_, q1, q2, c0, c1, c2, c3, d0, d1, (World.cell?_of_block hr).trans hw0, (World.cell?_of_block hr).trans hw1, (World.frozen?_of_block hr).trans hw2, (World.frozen?_of_block hr).trans hw3⟩
  · refine (hL.keep fun b hP => ?_).mono fun b hP => ?_
    · obtain ⟨h1, h2, h3⟩ := hLp b hP
      exact (hW b (by omega) h3).trans (hlf b h2)
    · obtain ⟨h1, h2, h3⟩ := hLp b hP
      omega
  · refine (hS.keep fun b hP => ?_).mono fun b hP => ?_
    · obtain ⟨h1, h2, h3⟩ := hSp b hP
      exact hW b h2 h3
    · obtain ⟨h1, h2, h3⟩ := hSp b hP
      omega


/-- The cells of the pair's list. -/
def fourC (x y : Sc) : Obj := .cells #[.int .i64 x.k, x.v1, .int .i64 y.k, y.v1] 24
def pairC (b : Nat) : Obj := .cells #[.int .i64 5, .slice (some ⟨b, 0, none⟩) 2 2] 24

theorem cell_at_new {X : World} {n i : Nat} {cs : Array Value} {t : TypeId} {v : Value} (h : X.heap.size = n) (hv : cs[i]? = some v) : (X.alloc (.cells cs t)).cell? ⟨n, i, none⟩ = some v := by
  subst h
  simp [hv]

section
variable {w wl wf : World} {x y : Sc} {PL PS : Nat → Prop} (hL : x.Inp PL wl) (hS : y.Inp PS wf) (hbf : Below w.heap.size w wf) (hlf : ∀ b, b < wl.heap.size → wf.heap[b]? = wl.heap[b]?) (hsz : wl.heap.size ≤ wf.heap.size) (hlt : w.heap.size + 1 < wf.heap.size)
    (hw0 : wf.cell? ⟨w.heap.size + 1, 0, none⟩ = some (.int .i64 0)) (hw1 : wf.cell? ⟨w.heap.size + 1, 1, none⟩ = some (.slice none 0 0)) (hw2 : wf.frozen? ⟨w.heap.size + 1, 0, none⟩ = false) (hw3 : wf.frozen? ⟨w.heap.size + 1, 1, none⟩ = false)
    (hPL : ∀ b, PL b → w.heap.size + 1 + 1 ≤ b ∧ b < wl.heap.size) (hPS : ∀ b, PS b → w.heap.size + 1 + 1 ≤ b ∧ b < wf.heap.size)
include hL hS hbf hlf hsz hlt hw0 hw1 hw2 hw3 hPL hPS

theorem midA : MidC w ((wf.alloc (fourC x y)).alloc (pairC wf.heap.size)) (wf.heap.size + 1) wf.heap.size x y := by
  refine mid_of hL hS (belAl (belAl hbf)) hlf (fun b hP => ?_) (fun b hP => ?_) hsz (by rw [World.size_alloc, World.size_alloc]; omega) (fun b h _ => ?_) (by omega) hlt hw0 hw1 hw2 hw3 (by omega) (by rw [World.size_alloc, World.size_alloc]; omega) ?_ ?_ ?_ ?_ ?_ ?_
  · have := hPL b hP; omega
  · have := hPS b hP; omega
  · rw [Below.heap_alloc _ _ _ (by simp; omega), Below.heap_alloc _ _ _ h]
  all_goals unfold fourC pairC; simp
theorem midB : MidC w ((wf.alloc (pairC (wf.heap.size + 1))).alloc (fourC x y)) wf.heap.size (wf.heap.size + 1) x y := by
  refine mid_of hL hS (belAl (belAl hbf)) hlf (fun b hP => ?_) (fun b hP => ?_) hsz (by rw [World.size_alloc, World.size_alloc]; omega) (fun b h _ => ?_) (by omega) hlt hw0 hw1 hw2 hw3 (by omega) (by rw [World.size_alloc, World.size_alloc]; omega) ?_ ?_ ?_ ?_ ?_ ?_
  · have := hPL b hP; omega
  · have := hPS b hP; omega
  · rw [Below.heap_alloc _ _ _ (by simp; omega), Below.heap_alloc _ _ _ h]
  all_goals unfold fourC pairC; simp
theorem midC {p : Nat} {u0 u1 : Value} (hp : p < wf.heap.size) (hpw : w.heap.size + 1 + 1 ≤ p) (hu0 : wf.cell? ⟨p, 0, none⟩ = some u0) (hu1 : wf.cell? ⟨p, 1, none⟩ = some u1) (hLp : ∀ b, PL b → b ≠ p) (hSp : ∀ b, PS b → b ≠ p) :
    MidC w (((wf.setCell ⟨p, 0, none⟩ (.int .i64 5)).setCell ⟨p, 1, none⟩ (.slice (some ⟨wf.heap.size, 0, none⟩) 2 2)).alloc (fourC x y)) p wf.heap.size x y := by
  have hz : ((wf.setCell ⟨p, 0, none⟩ (.int .i64 5)).setCell ⟨p, 1, none⟩ (.slice (some ⟨wf.heap.size, 0, none⟩) 2 2)).heap.size = wf.heap.size := by simp
  refine mid_of hL hS (belAl ((hbf.setCell (by simp; omega) _).setCell (by simp; omega) _)) hlf (fun b hP => ?_) (fun b hP => ?_) hsz (by simp) (fun b h hne => ?_) hpw hlt hw0 hw1 hw2 hw3 (by omega) (by simp) ?_ ?_ ?_ ?_ ?_ ?_
  · have := hPL b hP; have := hLp b hP; omega
  · have := hPS b hP; have := hSp b hP; omega
  · rw [Below.heap_alloc _ _ _ (by rw [hz]; exact h), Below.heap_setCell _ _ _ _ hne, Below.heap_setCell _ _ _ _ hne]
  · exact cell_at_new hz rfl
  · exact cell_at_new hz rfl
  · exact cell_at_new hz rfl
  · exact cell_at_new hz rfl
  · rw [World.cell?_alloc_past _ _ _ (by rw [hz]; exact hp)]; go_simp
  · rw [World.cell?_alloc_past _ _ _ (by rw [hz]; exact hp)]; go_simp
end

end Go.Proofs.YtleejffjnknohaaGreat.S2

namespace Go.Proofs.YtleejffjnknohaaGreat.S2
open Go.RowKit Go.Shelf

attribute [local go_sem] Oper.semAt_some

mutual
/-- A schema and all that is in it, each with its depth. -/
def preS : Sc → Int → List (Int × Sc)
  | .mk k A c l, d => (d, .mk k A c l) :: preL l (wrap64 (d + 1))
def preL : List Sc → Int → List (Int × Sc)
  | [], _ => []
  | x :: l, d => preS x d ++ preL l d
end

theorem preL_append (a b : List Sc) (d : Int) : preL (a ++ b) d = preL a d ++ preL b d := by
  induction a with
  | nil => rfl
  | cons x a ih => rw [List.cons_append, preL, ih, preL, List.append_assoc]
theorem preL_snoc {l : List Sc} {k : Nat} {x : Sc} (d : Int) (hx : l[k]? = some x) : preL (l.take (k + 1)) d = preL (l.take k) d ++ preS x d := by
  obtain ⟨hk, he⟩ := List.getElem?_eq_some_iff.1 hx
  rw [List.take_succ_eq_append_getElem hk, he, preL_append, preL, preL, List.append_nil]
theorem preL_split {l : List Sc} {k : Nat} {x : Sc} (d : Int) (hx : l[k]? = some x) : preL l d = preL (l.take k) d ++ (preS x d ++ preL (l.drop (k + 1)) d) := by
  obtain ⟨hk, he⟩ := List.getElem?_eq_some_iff.1 hx
  conv => lhs; rw [← List.take_append_drop k l]
  rw [preL_append, List.drop_eq_getElem_cons hk, he, preL]

/-- How what was seen is handed to the loop. -/
def encD (x : Int × Sc) : Array Value := #[.int .i64 x.1, x.2.val]

/-- The cells lie as they lay, but for block D. -/
structure KC (D : Nat) (W W' : World) : Prop where
  size : W.heap.size ≤ W'.heap.size
  same : ∀ (b : Nat) (o : Obj), W.heap[b]? = some o → o.isCells = true → b ≠ D → W'.heap[b]? = some o

theorem KC.refl (D : Nat) (W : World) : KC D W W := ⟨Nat.le_refl _, fun _ _ h _ _ => h⟩
theorem KC.trans {D : Nat} {X Y Z : World} (h : KC D X Y) (k : KC D Y Z) : KC D X Z := ⟨Nat.le_trans h.size k.size, fun b o h1 h2 h3 => k.same b o (h.same b o h1 h2 h3) h2 h3⟩
theorem KC.of_below {D : Nat} {W W' : World} (h : Below W.heap.size W W') : KC D W W' := ⟨h.size, fun b _ h1 _ _ => (h.block b (Array.getElem?_eq_some_iff.1 h1).1).trans h1⟩
theorem KC.book {D : Nat} {w : World} (W : World) (l : Nat) (o o' : Obj) (_ : w.heap.size ≤ l) (h : W.heap[l]? = some o) (ho : o.isCells = false) (_ : o.isWalk = false) : KC D W (W.putObj l o') :=
  ⟨by simp, fun b o2 h1 h2 _ => by
    have hne : b ≠ l := fun e => by subst e; rw [h] at h1; cases h1; rw [ho] at h2; cases h2
    rw [World.putObj_heap_other hne]; exact h1⟩
theorem KC.cell {D : Nat} {W W' : World} (h : KC D W W') {b o : Nat} {v : Value} (hb : b ≠ D) (hc : W.cell? ⟨b, o, none⟩ = some v) : W'.cell? ⟨b, o, none⟩ = some v := by
  obtain ⟨ob, h1, h2⟩ := cells_of_cell hc
  exact (World.cell?_of_block (a := ⟨b, o, none⟩) ((h.same b ob h1 h2 hb).trans h1.symm)).trans hc
theorem LiesP.kc {D : Nat} {W W' : World} {A : Option Addr} {l : List Sc} (h : LiesP (fun b => b ≠ D) W A l) (hk : KC D W W') : LiesP (fun b => b ≠ D) W' A l := by
  rcases h with h | ⟨b, off, hA, hP, h⟩
  · exact .inl h
  · exact .inr ⟨b, off, hA, hP, fun i x hx => ⟨hk.cell hP (h i x hx).1, hk.cell hP (h i x hx).2⟩⟩
theorem Sc.Inp.kc {D : Nat} {W W' : World} {s : Sc} (h : s.Inp (fun b => b ≠ D) W) (hk : KC D W W') : s.Inp (fun b => b ≠ D) W' := by
  induction h with
  | mk k A c l hl h1 h2 h3 _ ih => exact .mk k A c l (hl.kc hk) h1 h2 h3 ih

theorem yield_any {m m' : Nat} {P : Program} {l : Nat} {args : Array Value} {W : World} {R : Ending → World → Prop} (h : YieldAt Fence.wide m P l args W R) : YieldAt Fence.wide m' P l args W R := by
  obtain ⟨fn, tmps, assign, body, h1, h2⟩ := h
  exact ⟨fn, tmps, assign, body, h1, h2.1, fun c cs _ => h2.2 c cs (room_wide _)⟩

/-- What the walk answers. -/
def Went (D : Nat) (J Jx : List (Int × Sc) → World → Prop) (pre : List (Int × Sc)) (zs : List (Int × Sc)) (W : World) (e : Ending) (W' : World) : Prop :=
  (e = .returned (.bool true) ∧ J (pre ++ zs) W' ∧ KC D W W') ∨ (e = .returned (.bool false) ∧ ∃ p, p <+: zs ∧ Jx (pre ++ p) W')

set_option maxRecDepth 100000 in
set_option maxHeartbeats 2000000 in
theorem descend_in (l D N : Nat) (J Jx : List (Int × Sc) → World → Prop) (hJ : ∀ pre W W', J pre W → Below W.heap.size W W' → J pre W')
    (hY : ∀ pre x W1, J pre W1 → pre.length < N → YieldAt Fence.wide 0 Tryz.prog l (encD x) W1 fun e W' =>
      (e = .returned (.bool true) ∧ J (pre ++ [x]) W' ∧ KC D W1 W') ∨ (e = .returned (.bool false) ∧ Jx (pre ++ [x]) W')) :
    ∀ (s : Sc) (n : Nat) (d : Int) (pre : List (Int × Sc)) (W : World), s.Inp (fun b => b ≠ D) W → D < W.heap.size → J pre W → pre.length + (preS s d).length ≤ N →
      CallsIn Fence.wide n Tryz.prog 55 #[s.val, .int .i64 d, .func (.func 35) #[] #[], .func (.yield l) #[] #[]] W (Went D J Jx pre (preS s d) W) := by
  intro s
  induction s using Sc.ind with
  | h k0 A c l0 ih =>
    intro n d pre W hin hD h0 hN
    have IH := Lib.hid ih
    have HIN := Lib.hid hin
    have HJ := Lib.hid hJ
    have HY := Lib.hid hY
    clear ih hin hJ hY
    simp only [val_mk]
    refine callsIn_of_wp Tryz.func55 rfl trivial ?_ rfl
    simp only [Tryz.ntmps55, List.size_toArray, List.length_cons, List.length_nil, Nat.reduceAdd, Nat.reduceSub, Array.replicate_succ, Array.replicate_zero, List.push_toArray, List.append_toArray, List.nil_append, List.cons_append]
    have hJ1 := HJ.out pre W (W.alloc (.cells #[.int .i64 k0, .slice A l0.length c] 24)) h0 (allocB _ _)
    obtain ⟨fn, tmps, assign, body, hy, hR⟩ := yield_any (m' := n - 1) (HY.out pre (d, .mk k0 A c l0) _ hJ1 (by rw [preS] at hN; simp at hN; omega))
    unfold encD at hy
    simp only [val_mk] at hy
    gi_wp2_with fail
    refine ⟨fun h => absurd h (by simp [Fence.wide]), hR.mono ?_⟩
    rintro e W3 (⟨rfl, hJ3, hk3⟩ | ⟨rfl, hJx3⟩)
    · have hbne : W.heap.size ≠ D := by omega
      have hb0 := hk3.cell (o := 0) hbne (by simp : _ = some (.int .i64 k0))
      have hb1 := hk3.cell (o := 1) hbne (by simp : _ = some (.slice A l0.length c))
      have hkW : KC D W W3 := (KC.of_below (allocB _ _)).trans hk3
      clear hy hR hk3 hJ1 h0
      gi_wp2_with fail
      refine ⟨trivial, fun h => absurd h (by simp [Fence.wide]), (callsIn_wide.2 (inside_any (.mk k0 A c l0) W3)).mono ?_⟩
      rintro e W4 ⟨rfl, hb4⟩
      simp only [Sc.v1]
      have hJ4 := HJ.out _ _ _ hJ3 hb4
      have hk4 : KC D W W4 := hkW.trans (KC.of_below hb4)
      have hl32 : l0.length * 32 ≤ 140737488351232 := by
        cases HIN.out with
        | mk _ _ _ _ _ _ _ h3 _ => exact h3
      clear hJ3 hkW hb0 hb1 hb4
      gi_wp2_with fail
      gi_loopw [20] (fun iv wr => ∃ (k : Nat), k ≤ l0.length ∧ iv = .int .i64 k ∧ J (pre ++ (d, Sc.mk k0 A c l0) :: preL (l0.take k) (wrap64 (d + 1))) wr ∧ KC D W wr) (fun iv _ => l0.length - (intOf iv).toNat)
      case atStart => exact ⟨0, Nat.zero_le _, rfl, hJ4, hk4⟩
      case round =>
        obtain ⟨k, hk, rfl, hJr, hkr⟩ := hrel
        clear hJ4 hk4
        by_cases hlt : k < l0.length
        · obtain ⟨hl, hall⟩ : LiesP (fun b => b ≠ D) wr A l0 ∧ ∀ x ∈ l0, x.Inp (fun b => b ≠ D) wr := by
            cases HIN.out with
            | mk _ _ _ _ h1 _ _ _ h4 => exact ⟨h1.kc hkr, fun x hx => (h4 x hx).kc hkr⟩
          rcases hl with hl | ⟨b, off, rfl, hb, hc⟩
          · subst hl; simp at hlt
          obtain ⟨x, hx⟩ : ∃ x, l0[k]? = some x := ⟨_, List.getElem?_eq_getElem hlt⟩
          obtain ⟨hc0, hc1⟩ := hc k x hx
          have hxin := hall x (List.mem_of_getElem? hx)
          have hM := Lib.hid (List.mem_of_getElem? hx)
          have HX := Lib.hid hx
          have hNx : (pre ++ (d, Sc.mk k0 (some ⟨b, off, none⟩) c l0) :: preL (l0.take k) (wrap64 (d + 1))).length + (preS x (wrap64 (d + 1))).length ≤ N := by
            rw [preS, preL_split (wrap64 (d + 1)) hx] at hN
            simp at hN ⊢
            omega
          clear hx hc hall
          have hbb := World.block_lt_of_cell? wr _ hc0
          simp only at hbb
          obtain ⟨xk, xA, xc, xl⟩ := x
          simp only [Sc.v1, Sc.k] at hc0 hc1
          have HNX := Lib.hid hNx
          clear hNx hN
          gi_wp2_with fail
          have hbr : Below wr.heap.size wr (wr.alloc (.cells #[.int .i64 xk, .slice xA xl.length xc] 24)) := allocB _ _
          refine ⟨trivial, fun h => absurd h (by simp [Fence.wide]), (IH.out _ hM.out (n - 1) _ _ _ (hxin.kc (KC.of_below hbr)) (Nat.lt_of_lt_of_le (Nat.lt_of_lt_of_le hD hkr.size) hbr.size) (HJ.out _ _ _ hJr hbr) HNX.out).mono ?_⟩
          rintro e W5 (⟨rfl, hJ5, hk5⟩ | ⟨rfl, p, hp, hJx5⟩)
          · have hk6 : KC D W W5 := hkr.trans ((KC.of_below hbr).trans hk5)
            rw [List.append_assoc, List.cons_append, ← preL_snoc (wrap64 (d + 1)) HX.out] at hJ5
            clear hk5 hbr hJr hkr hc0 hc1
            gi_wp2_with fail
            go_roundw
            case rel => exact ⟨k + 1, by omega, by go_num, hJ5, hk6⟩
            case measure => simp [intOf]; omega
          · gi_wp2_with fail
            refine bodyPost_ret (results_tmp rfl _ _ _) rfl ?_
            refine .inr ⟨rfl, (d, Sc.mk k0 (some ⟨b, off, none⟩) c l0) :: preL (l0.take k) (wrap64 (d + 1)) ++ p, ?_, by rw [← List.append_assoc]; exact hJx5⟩
            rw [preS, preL_split (wrap64 (d + 1)) HX.out]
            obtain ⟨r, hr⟩ := hp
            exact ⟨r ++ preL (l0.drop (k + 1)) (wrap64 (d + 1)), by simp [← hr]⟩
        · gi_wp2_with fail
          refine bodyPost_ret (results_tmp rfl _ _ _) rfl ?_
          refine .inl ⟨rfl, ?_, hkr⟩
          rw [List.take_of_length_le (by omega)] at hJr
          rw [preS]
          exact hJr
    · gi_wp2_with fail
      refine bodyPost_ret (results_tmp rfl _ _ _) rfl ?_
      refine .inr ⟨rfl, [(d, .mk k0 A c l0)], ?_, hJx3⟩
      rw [preS]
      exact ⟨preL l0 (wrap64 (d + 1)), rfl⟩
end Go.Proofs.YtleejffjnknohaaGreat.S2
