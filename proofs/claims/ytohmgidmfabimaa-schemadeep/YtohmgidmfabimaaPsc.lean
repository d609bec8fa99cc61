/- Rows of schemas that a call owns, and append onto them; what schema.fresh does. No condition but that the schema lies in memory. -/
import Derived.Test.YtohmgidmfabimaaPsb
import Derived.Deep.RegionLaw
namespace Go.Proofs.Ytohmgidmfabimaa
open Go.RowKit

theorem Try.infoSch : (Try.prog.info? 24).map (fun i => (i.zero, i.size, i.bytes)) = some (some (.agg #[.int .i64 0, .slice none 0 0]), 2, 32) := by kernel_rfl

section
variable (w : World) {o : Oper} {a : Act} {K : Act → World → Prop} {Q : Exit → Act → World → Prop}

/-- append onto a row of the call's own; where the row lies is told. -/
theorem wp_appAt (s x : Operand) (t : TypeId) (ho : o.op = .call { callee := .builtin .append, args := #[s, x], argTypes := #[t, t] })
    (base : Nat) (e : TypeId) (i : TypeInfo) (z : Value) (size bytes : Nat) (ht : Try.prog.underlying t = some (.slice e)) (hi : Try.prog.info? e = some i) (hz : i.zero = some z) (hsize : i.size = size) (hby : i.bytes = bytes) (hzs : z.cells.size = size) (hsz : 0 < size)
    (v : Value) (n : Nat) (xs : List Value) (hs : a.eval s = v) (hown : w.ownsRow base e size v n xs)
    (ad : Addr) (m c : Nat) (news : List Value) (hx : a.eval x = .slice (some ad) m c) (hl : news.length = m * size) (hnews : ∀ j u, news[j]? = some u → w.cell? (ad.add j) = some u) (h1 : ∀ u ∈ news, u.oneCell' = true)
    (h63 : n + m ≤ maxLen) (hbytes : (n + m) * bytes ≤ 140737488355328) (hbase : base ≤ w.heap.size)
    (h : ∀ v' w', w'.ownsRow base e size v' (n + m) (xs ++ news) → w.grownBy w' v.ownBlock → (v'.ownBlock = v.ownBlock ∨ v'.ownBlock = some w.heap.size) → K (a.put o.dst v') w') : o.wp Try.prog a w K Q := by
  obtain ⟨v', w', hr, h2, h3, -, h4⟩ := run_append_own_at (P := Try.prog) w base t o.type e i z size bytes ht hi hz hsize hby hzs hsz v n xs hown ad m c news hl hnews h1 h63 hbytes hbase
  unfold Oper.wp execOp
  simp only [ho, resolve, invoke, builtin, Sem.run_bind, Sem.run_pure, Result.andThen_ok, List.map_toArray, List.map_cons, List.map_nil, hs, hx, hr]
  exact h v' w' h2 h3 h4

theorem wpList_appAt {ops : Array Oper} {rest : List Oper} (hgd : o.guard = none) (s x : Operand) (t : TypeId) (ho : o.op = .call { callee := .builtin .append, args := #[s, x], argTypes := #[t, t] })
    (base : Nat) (e : TypeId) (i : TypeInfo) (z : Value) (size bytes : Nat) (ht : Try.prog.underlying t = some (.slice e)) (hi : Try.prog.info? e = some i) (hz : i.zero = some z) (hsize : i.size = size) (hby : i.bytes = bytes) (hzs : z.cells.size = size) (hsz : 0 < size)
    (v : Value) (n : Nat) (xs : List Value) (hs : a.eval s = v) (hown : w.ownsRow base e size v n xs)
    (ad : Addr) (m c : Nat) (news : List Value) (hx : a.eval x = .slice (some ad) m c) (hl : news.length = m * size) (hnews : ∀ j u, news[j]? = some u → w.cell? (ad.add j) = some u) (h1 : ∀ u ∈ news, u.oneCell' = true)
    (h63 : n + m ≤ maxLen) (hbytes : (n + m) * bytes ≤ 140737488355328) (hbase : base ≤ w.heap.size)
    (h : ∀ v' w', w'.ownsRow base e size v' (n + m) (xs ++ news) → w.grownBy w' v.ownBlock → (v'.ownBlock = v.ownBlock ∨ v'.ownBlock = some w.heap.size) → wpList Try.prog ops Q rest (a.put o.dst v') w') : wpList Try.prog ops Q (o :: rest) a w :=
  wpList_plain hgd fun _ hK => wp_appAt w s x t ho base e i z size bytes ht hi hz hsize hby hzs hsz v n xs hs hown ad m c news hx hl hnews h1 h63 hbytes hbase fun v' w' h2 h3 h4 => hK _ _ (h v' w' h2 h3 h4)
end

/-- The value v is a slice of the call's own (from block 'base' on), or nil, and holds the schemas ys; what is in them lies in other new blocks. -/
structure OwnS (w : World) (base : Nat) (v : Value) (ys : List Sc) : Prop where
  row : w.ownsRow base 24 2 v ys.length (cellsS ys)
  all : ∀ y ∈ ys, y.Inp (fun b => base ≤ b ∧ b < w.heap.size ∧ some b ≠ v.ownBlock) w

theorem OwnS.nil (w : World) (base : Nat) : OwnS w base (.slice none 0 0) [] := ⟨World.ownsRow_nil w base _ _, by simp⟩

theorem OwnS.below {w w' : World} {base : Nat} {v : Value} {ys : List Sc} (h : OwnS w base v ys) (hb : Below w.heap.size w w') : OwnS w' base v ys := by
  refine ⟨World.ownsRow.kept h.row (row := none) ⟨hb.os, hb.tape, hb.output, hb.size, fun k hk _ => hb.block k hk⟩ ?_, fun y hy => ?_⟩
  · cases hv : v.ownBlock with
    | none => exact .inl rfl
    | some k => exact .inr (by simp)
  · exact (Sc.Inp.keep (h.all y hy) fun b hP => hb.block b hP.2.1).mono fun b hP => ⟨hP.1, Nat.lt_of_lt_of_le hP.2.1 hb.size, hP.2.2⟩

theorem OwnS.appended {w w' : World} {base : Nat} {v v' : Value} {ys : List Sc} {s : Sc} (h : OwnS w base v ys) (hs : s.Inp (fun b => base ≤ b ∧ b < w.heap.size ∧ some b ≠ v.ownBlock) w)
    (hrow : w'.ownsRow base 24 2 v' (ys.length + 1) (cellsS ys ++ [.int .i64 s.k, s.v1])) (hg : w.grownBy w' v.ownBlock) (hat : v'.ownBlock = v.ownBlock ∨ v'.ownBlock = some w.heap.size) : OwnS w' base v' (ys ++ [s]) := by
  refine ⟨?_, fun y hy => ?_⟩
  · rw [cellsS_append, List.length_append]
    simpa [cellsS] using hrow
  · have hy' : y.Inp (fun b => base ≤ b ∧ b < w.heap.size ∧ some b ≠ v.ownBlock) w := by
      rcases List.mem_append.1 hy with h1 | h1
      · exact h.all y h1
      · rw [List.mem_singleton.1 h1]; exact hs
    refine (hy'.keep fun b hP => hg.block b hP.2.1 hP.2.2).mono fun b hP => ⟨hP.1, Nat.lt_of_lt_of_le hP.2.1 hg.size, ?_⟩
    rcases hat with e | e
    · rw [e]; exact hP.2.2
    · rw [e]; intro e'; have := Option.some.inj e'; omega

/-- A slice of the call's own, as the list of a schema. -/
theorem OwnS.form {w : World} {base : Nat} {v : Value} {ys : List Sc} (h : OwnS w base v ys) (hlen : ys.length * 32 ≤ 140737488351232) : ∃ A c, v = .slice A ys.length c ∧ ∀ k, (Sc.mk k A c ys).Inp (fun b => base ≤ b ∧ b < w.heap.size) w := by
  have hall : ∀ y ∈ ys, y.Inp (fun b => base ≤ b ∧ b < w.heap.size) w := fun y hy => (h.all y hy).mono fun b hP => ⟨hP.1, hP.2.1⟩
  rcases h.row.2 with ⟨rfl, h0⟩ | ⟨g, cap, cur, rfl, hb, hg, hnc, hcm, hcs, ht⟩
  · have : ys = [] := List.eq_nil_of_length_eq_zero h0
    subst this
    exact ⟨none, 0, rfl, fun k => .mk _ _ _ _ LiesP.nil (by simp) (by simp) (by simp) (by simp)⟩
  · have hlt : g < w.heap.size := (Array.getElem?_eq_some_iff.1 hg).1
    refine ⟨_, cap, rfl, fun k => .mk _ _ _ _ (.inr ⟨g, 0, rfl, ⟨hb, hlt⟩, fun i x hx => ?_⟩) hnc (by unfold maxLen at hcm; omega) hlen hall⟩
    obtain ⟨h1, h2⟩ := cellsS_at hx
    have e1 := World.ownsRow.cells h.row (g := g) rfl _ _ h1
    have e2 := World.ownsRow.cells h.row (g := g) rfl _ _ h2
    rw [Addr.add_lit] at e1 e2
    exact ⟨e1, by rw [show 0 + i * 2 + 1 = 0 + (i * 2 + 1) by omega]; exact e2⟩
end Go.Proofs.Ytohmgidmfabimaa
