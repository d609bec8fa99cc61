/- Ticks in memory; rows of ticks that a call owns; append. No condition. -/
import Derived.Test.YtahjlckdjlafpaaRows
import Derived.Test.YtahjlckdjlafpaaClk
import Derived.Deep.RegionLaw
namespace Go.Proofs.Ytahjlckdjlafpaa
open Go.RowKit

def Tk.val (t : Tk) : Value := .agg #[.int .i64 t.k, .int .u64 t.n]

/-- The ticks xs lie, one behind the other, from A on (where there are any), below block m. -/
def LiesB (m : Nat) (w : World) (A : Option Addr) (xs : List Tk) : Prop :=
  xs = [] ∨ ∃ b off, A = some ⟨b, off, none⟩ ∧ b < m ∧ ∀ i x, xs[i]? = some x → w.cell? ⟨b, off + i * 2, none⟩ = some (.int .i64 x.k) ∧ w.cell? ⟨b, off + i * 2 + 1, none⟩ = some (.int .u64 x.n)

theorem LiesB.nil {m : Nat} {w : World} {A : Option Addr} : LiesB m w A [] := .inl rfl

theorem LiesB.get {m : Nat} {w : World} {A : Option Addr} {xs : List Tk} (h : LiesB m w A xs) {k : Nat} (hk : k < xs.length) :
    ∃ b off, A = some ⟨b, off, none⟩ ∧ b < m ∧ ∀ i x, xs[i]? = some x → w.cell? ⟨b, off + i * 2, none⟩ = some (.int .i64 x.k) ∧ w.cell? ⟨b, off + i * 2 + 1, none⟩ = some (.int .u64 x.n) := by
  rcases h with h | h
  · subst h; simp at hk
  · exact h

theorem LiesB.keep {m : Nat} {w w' : World} {A : Option Addr} {xs : List Tk} (h : LiesB m w A xs) (hb : ∀ b, b < m → w'.heap[b]? = w.heap[b]?) : LiesB m w' A xs := by
  rcases h with h | ⟨b, off, hA, hlt, h⟩
  · exact .inl h
  · exact .inr ⟨b, off, hA, hlt, fun i x hx => ⟨(World.cell?_of_block (a := ⟨b, _, none⟩) (hb b hlt)).trans (h i x hx).1, (World.cell?_of_block (a := ⟨b, _, none⟩) (hb b hlt)).trans (h i x hx).2⟩⟩
theorem LiesB.below {m : Nat} {w w' : World} {A : Option Addr} {xs : List Tk} (h : LiesB m w A xs) (hb : Below m w w') : LiesB m w' A xs := h.keep fun b hlt => hb.block b hlt
theorem LiesB.up {m n : Nat} {w : World} {A : Option Addr} {xs : List Tk} (h : LiesB m w A xs) (hm : m ≤ n) : LiesB n w A xs := by
  rcases h with h | ⟨b, off, hA, hlt, h⟩
  · exact .inl h
  · exact .inr ⟨b, off, hA, Nat.lt_of_lt_of_le hlt hm, h⟩
/-- In a later world, whatever was there is as it was. -/
theorem LiesB.later {w w' : World} {A : Option Addr} {xs : List Tk} (h : LiesB w.heap.size w A xs) (hb : Below w.heap.size w w') : LiesB w'.heap.size w' A xs := (h.below hb).up hb.size
theorem LiesB.one {m b : Nat} {w : World} {x : Tk} (hm : b < m) (h0 : w.cell? ⟨b, 0, none⟩ = some (.int .i64 x.k)) (h1 : w.cell? ⟨b, 1, none⟩ = some (.int .u64 x.n)) : LiesB m w (some ⟨b, 0, none⟩) [x] := by
  refine .inr ⟨b, 0, rfl, hm, fun i y hy => ?_⟩
  match i, hy with
  | 0, hy => simp at hy; subst hy; exact ⟨h0, h1⟩

/-- What is behind the first one. -/
theorem LiesB.tail {m b off : Nat} {w : World} {x : Tk} {xs : List Tk} (h : LiesB m w (some ⟨b, off, none⟩) (x :: xs)) : LiesB m w (some ⟨b, off + 2, none⟩) xs := by
  rcases h with h | ⟨b', off', hA, hlt, h⟩
  · cases h
  · cases hA
    refine .inr ⟨b, off + 2, rfl, hlt, fun i y hy => ?_⟩
    have := h (i + 1) y (by simpa using hy)
    rw [show off + (i + 1) * 2 = off + 2 + i * 2 by omega] at this
    exact this

theorem belAl {w w' : World} {o : Obj} (h : Below w.heap.size w w') : Below w.heap.size w (w'.alloc o) := h.alloc h.size o
theorem allocB (w : World) (o : Obj) : Below w.heap.size w (w.alloc o) := (Below.refl _ w).alloc (Nat.le_refl _) o
theorem drewB (w : World) : Below w.heap.size w w.drew := (Below.refl _ _).drew

/-- A clock that lies in w: where, its capacity. -/
structure In (w : World) (A : Option Addr) (c : Nat) (xs : List Tk) : Prop where
  lies : LiesB w.heap.size w A xs
  cap : xs.length ≤ c
  top : c ≤ maxLen
  nok : Nok xs

theorem In.later {w w' : World} {A : Option Addr} {c : Nat} {xs : List Tk} (h : In w A c xs) (hb : Below w.heap.size w w') : In w' A c xs := ⟨h.lies.later hb, h.cap, h.top, h.nok⟩
theorem In.nil (w : World) : In w none 0 [] := ⟨.nil, Nat.le_refl _, by simp [maxLen], fun x hx => by cases hx⟩

/-- A call that answers the ticks ys, and leaves all that was there. -/
def RetT (w : World) (ys : List Tk) (e : Ending) (w' : World) : Prop :=
  ∃ A c, e = .returned (.slice A ys.length c) ∧ In w' A c ys ∧ Below w.heap.size w w'

/-- The cells that hold the ticks. -/
def cellsT (xs : List Tk) : List Value := xs.flatMap fun x => [.int .i64 x.k, .int .u64 x.n]

theorem cellsT_len (xs : List Tk) : (cellsT xs).length = xs.length * 2 := by
  induction xs with
  | nil => rfl
  | cons x xs ih => simp only [cellsT, List.flatMap_cons, List.length_append, List.length_cons, List.length_nil] at ih ⊢; omega

theorem cellsT_append (xs ys : List Tk) : cellsT (xs ++ ys) = cellsT xs ++ cellsT ys := by simp [cellsT]
theorem cellsT_cons (x : Tk) (xs : List Tk) : cellsT (x :: xs) = .int .i64 x.k :: .int .u64 x.n :: cellsT xs := by simp [cellsT]

theorem cellsT_at {xs : List Tk} {i : Nat} {x : Tk} (h : xs[i]? = some x) : (cellsT xs)[i * 2]? = some (.int .i64 x.k) ∧ (cellsT xs)[i * 2 + 1]? = some (.int .u64 x.n) := by
  induction xs generalizing i with
  | nil => simp at h
  | cons y xs ih =>
    cases i with
    | zero => simp at h; subst h; simp [cellsT]
    | succ i =>
      have := ih (i := i) (by simpa using h)
      have e : (i + 1) * 2 = i * 2 + 1 + 1 := by omega
      rw [e]
      simpa [cellsT] using this

theorem cellsT_one {xs : List Tk} : ∀ u ∈ cellsT xs, u.oneCell' = true := by
  intro u hu
  obtain ⟨x, _, hx⟩ := List.mem_flatMap.1 hu
  simp at hx
  rcases hx with rfl | rfl <;> rfl

/-- The cells of ticks that lie in memory. -/
theorem LiesB.cells {m b off : Nat} {w : World} : ∀ {xs : List Tk}, LiesB m w (some ⟨b, off, none⟩) xs → ∀ j u, (cellsT xs)[j]? = some u → w.cell? ((⟨b, off, none⟩ : Addr).add j) = some u := by
  intro xs h j u hu
  rcases h with h | ⟨b', off', hA, hlt, h⟩
  · subst h; simp [cellsT] at hu
  · cases hA
    have hj : j < xs.length * 2 := by rw [← cellsT_len]; exact (List.getElem?_eq_some_iff.1 hu).1
    obtain ⟨x, hx⟩ : ∃ x, xs[j / 2]? = some x := ⟨_, List.getElem?_eq_getElem (by omega)⟩
    obtain ⟨h0, h1⟩ := h _ x hx
    obtain ⟨g0, g1⟩ := cellsT_at hx
    rw [Addr.add_lit]
    rcases Nat.mod_two_eq_zero_or_one j with e | e
    · have ej : j / 2 * 2 = j := by omega
      rw [ej] at g0 h0
      rw [g0] at hu
      rw [h0]
      exact hu
    · have ej : j / 2 * 2 + 1 = j := by omega
      rw [Nat.add_assoc, ej] at h1
      rw [ej] at g1
      rw [g1] at hu
      rw [h1]
      exact hu

/-- The value v is a slice of the call's own (from block 'base' on), or nil, and holds the ticks ys. -/
def OwnT (w : World) (base : Nat) (v : Value) (ys : List Tk) : Prop := w.ownsRow base 35 2 v ys.length (cellsT ys)

theorem OwnT.nil (w : World) (base : Nat) : OwnT w base (.slice none 0 0) [] := World.ownsRow_nil w base _ _

theorem OwnT.form {w : World} {base : Nat} {v : Value} {ys : List Tk} (h : OwnT w base v ys) (hn : Nok ys) : ∃ A c, v = .slice A ys.length c ∧ In w A c ys := by
  rcases h.2 with ⟨rfl, h0⟩ | ⟨g, cap, cur, rfl, hb, hg, hnc, hcm, hcs, ht⟩
  · have : ys = [] := List.eq_nil_of_length_eq_zero h0
    subst this
    exact ⟨none, 0, rfl, In.nil w⟩
  · have hlt : g < w.heap.size := (Array.getElem?_eq_some_iff.1 hg).1
    refine ⟨_, cap, rfl, .inr ⟨g, 0, rfl, hlt, fun i x hx => ?_⟩, hnc, hcm, hn⟩
    obtain ⟨h1, h2⟩ := cellsT_at hx
    have e1 := World.ownsRow.cells h (g := g) rfl _ _ h1
    have e2 := World.ownsRow.cells h (g := g) rfl _ _ h2
    rw [Addr.add_lit] at e1 e2
    exact ⟨e1, by rw [show 0 + i * 2 + 1 = 0 + (i * 2 + 1) by omega]; exact e2⟩

theorem OwnT.below {w w' : World} {base : Nat} {v : Value} {ys : List Tk} (h : OwnT w base v ys) (hb : Below w.heap.size w w') : OwnT w' base v ys :=
  World.ownsRow.kept h (row := none) ⟨hb.os, hb.tape, hb.output, hb.size, fun k hk _ => hb.block k hk⟩ (by
    cases hv : v.ownBlock with
    | none => exact .inl rfl
    | some k => exact .inr (by simp))
theorem OwnT.lt {w : World} {base : Nat} {v : Value} {ys : List Tk} (h : OwnT w base v ys) {k : Nat} (hk : v.ownBlock = some k) : base ≤ k ∧ k < w.heap.size := World.ownsRow.lt h k hk

theorem retT_of_own {w w' : World} {base : Nat} {v : Value} {ys zs : List Tk} (h : OwnT w' base v ys) (e : ys = zs) (hn : Nok zs) (hb : Below w.heap.size w w') : RetT w zs (.returned v) w' := by
  subst e
  obtain ⟨A, c, rfl, h1⟩ := h.form hn
  exact ⟨A, c, rfl, h1, hb⟩

theorem Try.infoTick : (Try.prog.info? 35).map (fun i => (i.zero, i.size, i.bytes)) = some (some (.agg #[.int .i64 0, .int .u64 0]), 2, 16) := by kernel_rfl

section
variable (w : World)

theorem run_app_nil (base : Nat) (t ty : TypeId) (ht : Try.prog.underlying t = some (.slice 35)) (v : Value) (ys : List Tk) (hown : OwnT w base v ys) (c : Nat) :
    (Builtin.append_ #[t, t] ty #[v, .slice none 0 c]).run Try.prog w = .ok v w := by
  obtain ⟨i0, hi, hz0, hz1, hz2⟩ := info_parts Try.infoTick
  rcases hown.2 with ⟨rfl, _⟩ | ⟨g, cap, cur, rfl, _, _, hnc, _⟩
  · simp [Builtin.append_, run_underlying ht, sizeOf, typeInfo, hi, Builtin.lenOf, Builtin.firstCells]
  · simp [Builtin.append_, run_underlying ht, sizeOf, typeInfo, hi, Builtin.lenOf, Builtin.firstCells, hnc, storeCells]

/-- append onto a row of the call's own, of whatever ticks. -/
theorem run_app (base : Nat) (t ty : TypeId) (ht : Try.prog.underlying t = some (.slice 35)) (v : Value) (ys : List Tk) (hown : OwnT w base v ys)
    (m : Nat) (A : Option Addr) (c : Nat) (news : List Tk) (hl : LiesB m w A news) (hlen : ys.length + news.length ≤ 1000000) (hbase : base ≤ w.heap.size) :
    ∃ v' w', (Builtin.append_ #[t, t] ty #[v, .slice A news.length c]).run Try.prog w = .ok v' w' ∧ OwnT w' base v' (ys ++ news) ∧ w.grownBy w' v.ownBlock ∧
      (v'.ownBlock = v.ownBlock ∨ v'.ownBlock = some w.heap.size) := by
  obtain ⟨i0, hi, hz0, hz1, hz2⟩ := info_parts Try.infoTick
  cases A with
  | none =>
    have hn : news = [] := by
      rcases hl with h | ⟨b, off, h, _⟩
      · exact h
      · cases h
    subst hn
    exact ⟨v, w, run_app_nil w base t ty ht v ys hown c, by simpa using hown, World.grownBy.refl w _, .inl rfl⟩
  | some a =>
    have hcells : ∀ j u, (cellsT news)[j]? = some u → w.cell? (a.add j) = some u := by
      intro j u hu
      have hl' := hl
      rcases hl' with h | ⟨b, off, h, _⟩
      · subst h; simp [cellsT] at hu
      · cases h
        exact hl.cells j u hu
    obtain ⟨v', w', hr, h2, h3, _, h5⟩ := run_append_own_at (P := Try.prog) w base t ty 35 i0 _ 2 16 ht hi hz0 hz1 hz2 rfl (by omega) v ys.length (cellsT ys) hown a news.length c (cellsT news)
      (by rw [cellsT_len]) hcells cellsT_one (by unfold maxLen; omega) (by omega) hbase
    refine ⟨v', w', hr, ?_, h3, h5⟩
    unfold OwnT
    rw [cellsT_append, List.length_append]
    exact h2

variable {o : Oper} {a : Act} {K : Act → World → Prop} {Q : Exit → Act → World → Prop}

theorem wp_app (s x : Operand) (t : TypeId) (ho : o.op = .call { callee := .builtin .append, args := #[s, x], argTypes := #[t, t] })
    (base : Nat) (ht : Try.prog.underlying t = some (.slice 35)) (v : Value) (ys : List Tk) (hs : a.eval s = v) (hown : OwnT w base v ys)
    (k : Nat) (A : Option Addr) (m c : Nat) (news : List Tk) (hm : news.length = m) (hx : a.eval x = .slice A m c) (hl : LiesB k w A news) (hlen : ys.length + news.length ≤ 1000000) (hbase : base ≤ w.heap.size)
    (h : ∀ v' w', OwnT w' base v' (ys ++ news) → w.grownBy w' v.ownBlock → (v'.ownBlock = v.ownBlock ∨ v'.ownBlock = some w.heap.size) → K (a.put o.dst v') w') : o.wp Try.prog a w K Q := by
  subst hm
  obtain ⟨v', w', hr, h2, h3, h4⟩ := run_app w base t o.type ht v ys hown k A c news hl hlen hbase
  unfold Oper.wp execOp
  simp only [ho, resolve, invoke, builtin, Sem.run_bind, Sem.run_pure, Result.andThen_ok, List.map_toArray, List.map_cons, List.map_nil, hs, hx, hr]
  exact h v' w' h2 h3 h4

theorem wpList_app {ops : Array Oper} {rest : List Oper} (hgd : o.guard = none) (s x : Operand) (t : TypeId) (ho : o.op = .call { callee := .builtin .append, args := #[s, x], argTypes := #[t, t] })
    (base : Nat) (ht : Try.prog.underlying t = some (.slice 35)) (v : Value) (ys : List Tk) (hs : a.eval s = v) (hown : OwnT w base v ys)
    (k : Nat) (A : Option Addr) (m c : Nat) (news : List Tk) (hm : news.length = m) (hx : a.eval x = .slice A m c) (hl : LiesB k w A news) (hlen : ys.length + news.length ≤ 1000000) (hbase : base ≤ w.heap.size)
    (h : ∀ v' w', OwnT w' base v' (ys ++ news) → w.grownBy w' v.ownBlock → (v'.ownBlock = v.ownBlock ∨ v'.ownBlock = some w.heap.size) → wpList Try.prog ops Q rest (a.put o.dst v') w') : wpList Try.prog ops Q (o :: rest) a w :=
  wpList_plain hgd fun _ hK => wp_app w s x t ho base ht v ys hs hown k A m c news hm hx hl hlen hbase fun v' w' h2 h3 h4 => hK _ _ (h v' w' h2 h3 h4)

theorem step_app {ops : Array Oper} {E : Prop} (hgd : o.guard = none) (s x : Operand) (t : TypeId) (ho : o.op = .call { callee := .builtin .append, args := #[s, x], argTypes := #[t, t] })
    (base : Nat) (ht : Try.prog.underlying t = some (.slice 35)) (v : Value) (ys : List Tk) (hs : a.eval s = v) (hown : OwnT w base v ys)
    (k : Nat) (A : Option Addr) (m c : Nat) (news : List Tk) (hm : news.length = m) (hx : a.eval x = .slice A m c) (hl : LiesB k w A news) (hlen : ys.length + news.length ≤ 1000000) (hbase : base ≤ w.heap.size)
    (h : ∀ v' w', OwnT w' base v' (ys ++ news) → w.grownBy w' v.ownBlock → (v'.ownBlock = v.ownBlock ∨ v'.ownBlock = some w.heap.size) → K (a.put o.dst v') w') :
    if Region.wanted o (yielded ops a.tmps) = true then Oper.wp Try.prog o a w K Q else E := by
  have hw : Region.wanted o (yielded ops a.tmps) = true := by simp [Region.wanted, hgd]
  rw [if_pos hw]
  exact wp_app w s x t ho base ht v ys hs hown k A m c news hm hx hl hlen hbase h
end

theorem results_cellT {fn : Func} {p : Tmp} (h : fn.results = #[.cell p 35]) (tmps : Array Value) (w : World) (g : Nat) (v0 v1 : Value) (hp : tmps.getD p undef = .pointer (some ⟨g, 0, none⟩))
    (h0 : w.cell? ⟨g, 0, none⟩ = some v0) (h1 : w.cell? ⟨g, 1, none⟩ = some v1) : (results fn tmps).run Try.prog w = .ok (.agg #[v0, v1]) w := by
  have hp' : tmps[p]?.getD undef = .pointer (some ⟨g, 0, none⟩) := by simpa using hp
  simp [results, h, hp', asAddr]
  go_simp
end Go.Proofs.Ytahjlckdjlafpaa
