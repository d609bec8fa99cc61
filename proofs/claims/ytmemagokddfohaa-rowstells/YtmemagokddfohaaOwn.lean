/- Rows of strings that a call owns, and append onto them. No condition. -/
import Derived.Test.YtmemagokddfohaaRows
import Derived.Test.YtmemagokddfohaaWords
import Derived.Deep.RegionLaw
namespace Go.Proofs.Ytmemagokddfohaa
open Go.RowKit

/-- The cells that hold the strings. -/
def cellsOf (ys : List Str) : List Value := ys.map fun x => Value.string (S x)

theorem cellsOf_get {ys : List Str} {j : Nat} {u : Value} (h : (cellsOf ys)[j]? = some u) : ∃ x, ys[j]? = some x ∧ u = .string (S x) := by
  unfold cellsOf at h
  rw [List.getElem?_map] at h
  cases hx : ys[j]? with
  | none => rw [hx] at h; cases h
  | some x => rw [hx] at h; exact ⟨x, rfl, by simpa using h.symm⟩

theorem cellsOf_at {ys : List Str} {j : Nat} {x : Str} (h : ys[j]? = some x) : (cellsOf ys)[j]? = some (.string (S x)) := by
  unfold cellsOf; rw [List.getElem?_map, h]; rfl

theorem cellsOf_one {ys : List Str} : ∀ u ∈ cellsOf ys, u.oneCell' = true := by
  intro u hu
  obtain ⟨x, _, rfl⟩ := List.mem_map.1 hu
  rfl

theorem cellsOf_len (ys : List Str) : (cellsOf ys).length = ys.length := by simp [cellsOf]
theorem cellsOf_append (xs ys : List Str) : cellsOf (xs ++ ys) = cellsOf xs ++ cellsOf ys := by simp [cellsOf]

/-- The value v is a slice of the call's own (from block 'base' on), or nil, and holds the strings ys. -/
def Own (w : World) (base : Nat) (v : Value) (ys : List Str) : Prop := w.ownsRow base 9 1 v ys.length (cellsOf ys)

theorem Own.nil (w : World) (base : Nat) : Own w base (.slice none 0 0) [] := World.ownsRow_nil w base _ _

theorem Own.form {w : World} {base : Nat} {v : Value} {ys : List Str} (h : Own w base v ys) :
    ∃ A c, v = .slice A ys.length c ∧ ys.length ≤ c ∧ c ≤ maxLen ∧ Lies w A ys := by
  rcases h.2 with ⟨rfl, h0⟩ | ⟨g, cap, cur, rfl, hb, hg, hnc, hcm, hcs, ht⟩
  · have : ys = [] := List.eq_nil_of_length_eq_zero h0
    subst this
    exact ⟨none, 0, rfl, Nat.le_refl _, Nat.zero_le _, .inl rfl⟩
  · refine ⟨_, cap, rfl, hnc, hcm, .inr ⟨g, 0, rfl, ?_, fun i x hx => ?_⟩⟩
    · rcases Nat.lt_or_ge g w.heap.size with hlt | hge
      · exact hlt
      · rw [Array.getElem?_eq_none hge] at hg; cases hg
    · have := World.ownsRow.cells h (g := g) rfl i _ (cellsOf_at hx)
      rwa [Addr.add_lit] at this

theorem Own.lt {w : World} {base : Nat} {v : Value} {ys : List Str} (h : Own w base v ys) {k : Nat} (hk : v.ownBlock = some k) : base ≤ k ∧ k < w.heap.size := World.ownsRow.lt h k hk

theorem Own.alloc {w : World} {base : Nat} {v : Value} {ys : List Str} (h : Own w base v ys) (o : Obj) : Own (w.alloc o) base v ys := World.ownsRow.alloc h o
theorem Own.drewN {w : World} {base : Nat} {v : Value} {ys : List Str} (h : Own w base v ys) (n : Nat) : Own (w.drewN n) base v ys := h
theorem Own.kept {w w' : World} {base : Nat} {v : Value} {ys : List Str} {row : Option Nat} (h : Own w base v ys) (hg : w.grownBy w' row) (hne : v.ownBlock = none ∨ v.ownBlock ≠ row) : Own w' base v ys := World.ownsRow.kept h hg hne

theorem Own.below {w w' : World} {base : Nat} {v : Value} {ys : List Str} (h : Own w base v ys) (hb : Below w.heap.size w w') : Own w' base v ys :=
  h.kept (row := none) ⟨hb.os, hb.tape, hb.output, hb.size, fun k hk _ => hb.block k hk⟩ (by
    cases hv : v.ownBlock with
    | none => exact .inl rfl
    | some k => exact .inr (by simp))

theorem Lies.grown {w w' : World} {A : Option Addr} {xs : List Str} {row : Option Nat} (h : Lies w A xs) (hg : w.grownBy w' row) (hne : ∀ a, A = some a → some a.block ≠ row) : Lies w' A xs := by
  rcases h with h | ⟨b, off, rfl, hb, h⟩
  · exact .inl h
  · exact .inr ⟨b, off, rfl, Nat.lt_of_lt_of_le hb hg.size, fun i x hx => hg.cell (h i x hx) (hne ⟨b, off, none⟩ rfl)⟩

theorem own_snoc {w : World} {base : Nat} {v : Value} {ys : List Str} {x : Str} (h : w.ownsRow base 9 1 v (ys.length + 1) (cellsOf ys ++ [.string (S x)])) : Own w base v (ys ++ [x]) := by
  unfold Own
  rw [cellsOf_append, List.length_append]
  exact h

theorem retL_of_own {w w' : World} {base : Nat} {v : Value} {ys zs : List Str} (h : Own w' base v ys) (e : ys = zs) (hb : Below w.heap.size w w') : RetL w zs (.returned v) w' := by
  subst e
  obtain ⟨A, c, rfl, h1, h2, h3⟩ := h.form
  exact ⟨A, c, rfl, h1, h2, h3, hb⟩

theorem Try.infoStr : (Try.prog.info? 9).map (fun i => (i.zero, i.size, i.bytes)) = some (some (.string { data := #[] }), 1, 16) := by kernel_rfl

section
variable (w : World)

theorem run_app_nil (base : Nat) (t ty : TypeId) (ht : Try.prog.underlying t = some (.slice 9)) (v : Value) (ys : List Str) (hown : Own w base v ys) (c : Nat) :
    (Builtin.append_ #[t, t] ty #[v, .slice none 0 c]).run Try.prog w = .ok v w := by
  obtain ⟨i0, hi, hz0, hz1, hz2⟩ := info_parts Try.infoStr
  rcases hown.2 with ⟨rfl, _⟩ | ⟨g, cap, cur, rfl, _, _, hnc, _⟩
  · simp [Builtin.append_, run_underlying ht, sizeOf, typeInfo, hi, Builtin.lenOf, Builtin.firstCells]
  · simp [Builtin.append_, run_underlying ht, sizeOf, typeInfo, hi, Builtin.lenOf, Builtin.firstCells, hnc, storeCells]

/-- append onto a row of the call's own, of whatever strings. -/
theorem run_app (base : Nat) (t ty : TypeId) (ht : Try.prog.underlying t = some (.slice 9)) (v : Value) (ys : List Str) (hown : Own w base v ys)
    (A : Option Addr) (c : Nat) (news : List Str) (hl : Lies w A news) (hlen : ys.length + news.length ≤ 1000000) (hbase : base ≤ w.heap.size) :
    ∃ v' w', (Builtin.append_ #[t, t] ty #[v, .slice A news.length c]).run Try.prog w = .ok v' w' ∧ Own w' base v' (ys ++ news) ∧ w.grownBy w' v.ownBlock ∧
      (v'.ownBlock = v.ownBlock ∨ v'.ownBlock = some w.heap.size) := by
  obtain ⟨i0, hi, hz0, hz1, hz2⟩ := info_parts Try.infoStr
  cases A with
  | none =>
    have hn : news = [] := by
      rcases hl with h | ⟨b, off, h, _⟩
      · exact h
      · cases h
    subst hn
    exact ⟨v, w, run_app_nil w base t ty ht v ys hown c, by simpa using hown, World.grownBy.refl w _, .inl rfl⟩
  | some a =>
    have hcells : ∀ j u, (cellsOf news)[j]? = some u → w.cell? (a.add j) = some u := by
      intro j u hu
      obtain ⟨x, hx, rfl⟩ := cellsOf_get hu
      rcases hl with h | ⟨b, off, h, _, hc⟩
      · subst h; simp at hx
      · cases h
        rw [Addr.add_lit]
        exact hc j x hx
    obtain ⟨v', w', hr, h2, h3, _, h5⟩ := run_append_own_at (P := Try.prog) w base t ty 9 i0 _ 1 16 ht hi hz0 hz1 hz2 rfl (by omega) v ys.length (cellsOf ys) hown a news.length c (cellsOf news)
      (by rw [cellsOf_len]; omega) hcells cellsOf_one (by unfold maxLen; omega) (by omega) hbase
    refine ⟨v', w', hr, ?_, h3, h5⟩
    unfold Own
    rw [cellsOf_append, List.length_append]
    exact h2

variable {o : Oper} {a : Act} {K : Act → World → Prop} {Q : Exit → Act → World → Prop}

theorem wp_app (s x : Operand) (t : TypeId) (ho : o.op = .call { callee := .builtin .append, args := #[s, x], argTypes := #[t, t] })
    (base : Nat) (ht : Try.prog.underlying t = some (.slice 9)) (v : Value) (ys : List Str) (hs : a.eval s = v) (hown : Own w base v ys)
    (A : Option Addr) (m c : Nat) (news : List Str) (hm : news.length = m) (hx : a.eval x = .slice A m c) (hl : Lies w A news) (hlen : ys.length + news.length ≤ 1000000) (hbase : base ≤ w.heap.size)
    (h : ∀ v' w', Own w' base v' (ys ++ news) → w.grownBy w' v.ownBlock → (v'.ownBlock = v.ownBlock ∨ v'.ownBlock = some w.heap.size) → K (a.put o.dst v') w') : o.wp Try.prog a w K Q := by
  subst hm
  obtain ⟨v', w', hr, h2, h3, h4⟩ := run_app w base t o.type ht v ys hown A c news hl hlen hbase
  unfold Oper.wp execOp
  simp only [ho, resolve, invoke, builtin, Sem.run_bind, Sem.run_pure, Result.andThen_ok, List.map_toArray, List.map_cons, List.map_nil, hs, hx, hr]
  exact h v' w' h2 h3 h4

theorem wpList_app {ops : Array Oper} {rest : List Oper} (hgd : o.guard = none) (s x : Operand) (t : TypeId) (ho : o.op = .call { callee := .builtin .append, args := #[s, x], argTypes := #[t, t] })
    (base : Nat) (ht : Try.prog.underlying t = some (.slice 9)) (v : Value) (ys : List Str) (hs : a.eval s = v) (hown : Own w base v ys)
    (A : Option Addr) (m c : Nat) (news : List Str) (hm : news.length = m) (hx : a.eval x = .slice A m c) (hl : Lies w A news) (hlen : ys.length + news.length ≤ 1000000) (hbase : base ≤ w.heap.size)
    (h : ∀ v' w', Own w' base v' (ys ++ news) → w.grownBy w' v.ownBlock → (v'.ownBlock = v.ownBlock ∨ v'.ownBlock = some w.heap.size) → wpList Try.prog ops Q rest (a.put o.dst v') w') : wpList Try.prog ops Q (o :: rest) a w :=
  wpList_plain hgd fun _ hK => wp_app w s x t ho base ht v ys hs hown A m c news hm hx hl hlen hbase fun v' w' h2 h3 h4 => hK _ _ (h v' w' h2 h3 h4)

theorem step_app {ops : Array Oper} {E : Prop} (hgd : o.guard = none) (s x : Operand) (t : TypeId) (ho : o.op = .call { callee := .builtin .append, args := #[s, x], argTypes := #[t, t] })
    (base : Nat) (ht : Try.prog.underlying t = some (.slice 9)) (v : Value) (ys : List Str) (hs : a.eval s = v) (hown : Own w base v ys)
    (A : Option Addr) (m c : Nat) (news : List Str) (hm : news.length = m) (hx : a.eval x = .slice A m c) (hl : Lies w A news) (hlen : ys.length + news.length ≤ 1000000) (hbase : base ≤ w.heap.size)
    (h : ∀ v' w', Own w' base v' (ys ++ news) → w.grownBy w' v.ownBlock → (v'.ownBlock = v.ownBlock ∨ v'.ownBlock = some w.heap.size) → K (a.put o.dst v') w') :
    if Region.wanted o (yielded ops a.tmps) = true then Oper.wp Try.prog o a w K Q else E := by
  have hw : Region.wanted o (yielded ops a.tmps) = true := by simp [Region.wanted, hgd]
  rw [if_pos hw]
  exact wp_app w s x t ho base ht v ys hs hown A m c news hm hx hl hlen hbase h
end
end Go.Proofs.Ytmemagokddfohaa
