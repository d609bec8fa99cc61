/- What value.couples and value.values give. No condition but that what is handed in lies in memory, and that each value has a fellow. What the reference's Level does. No condition but that the schema lies in memory. What schema.inside, schema.shaped, schema.leaning do. No condition. What schema.Same does. No condition but that the schemas lie in memory. Rows of schemas that a call owns, and append onto them; what schema.fresh does. No condition but that the schema lies in memory. What schema.renewed and schema.fresh do. No condition but that the schema lies in memory. What schema.fresh does. No condition but that the schema lies in memory. What schema.Cause does. No condition but that the schema lies in memory. -/
import Derived.Test.YtleejffjnknohaaGreatMo05
import Derived.Test.YtleejffjnknohaaGreatMo03
import Derived.Deep.RegionHeld3
import Derived.Deep.RegionLaw
import Derived.Deep.DeepCutAuto
namespace Go.Proofs.YtleejffjnknohaaGreat.V4
open Go.RowKit Go.Shelf
open S2 (Sc LiesP)

attribute [local go_sem] Oper.semAt_some

end Go.Proofs.YtleejffjnknohaaGreat.V4

namespace Go.Proofs.YtleejffjnknohaaGreat.S2
open Go.RowKit

end Go.Proofs.YtleejffjnknohaaGreat.S2

namespace Go.Proofs.YtleejffjnknohaaGreat.S2
open Go.RowKit

set_option maxHeartbeats 400000 in
theorem inside_any (s : Sc) (w : World) : Calls Tryz.prog 35 #[s.val] w (RetV w s.v1) := by
  obtain ⟨k0, A, c, l⟩ := s
  simp only [val_mk]
  go_enter Tryz.func35, Tryz.ntmps35
  go_wp2_with fail
  go_ret
  exact ⟨rfl, allocB _ _⟩

/-- It alone, not what is in it. -/
def shapedS (s : Sc) : Bool := decide ((s.ins.length : Int) = arI s.k)

theorem dec_int (n : Nat) (m : Int) : ((n : Int) == m) = decide ((n : Int) = m) := by
  by_cases h : (n : Int) = m <;> simp [h]

set_option maxHeartbeats 400000 in
theorem shaped_any (s : Sc) (w : World) : Calls Tryz.prog 36 #[s.val] w (RetV w (.bool (shapedS s))) := by
  obtain ⟨k, A, c, l⟩ := s
  simp only [val_mk]
  by_cases h0 : k = 1 ∨ k = 2 ∨ k = 3 ∨ k = 6 ∨ k = 7
  · rcases h0 with rfl | rfl | rfl | rfl | rfl
    all_goals
      go_enter Tryz.func36, Tryz.ntmps36
      go_wp2_with fail
      go_ret
      exact ⟨ret_bool (dec_int _ _), allocB _ _⟩
  · by_cases h1 : k = 4 ∨ k = 8
    · rcases h1 with rfl | rfl
      all_goals
        go_enter Tryz.func36, Tryz.ntmps36
        go_wp2_with fail
        go_ret
        exact ⟨ret_bool (dec_int _ _), allocB _ _⟩
    · by_cases h2 : k = 5
      · subst h2
        go_enter Tryz.func36, Tryz.ntmps36
        go_wp2_with fail
        go_ret
        exact ⟨ret_bool (dec_int _ _), allocB _ _⟩
      · have HA : Hid (shapedS (.mk k A c l) = false) := by
          show decide ((l.length : Int) = arI k) = false
          unfold arI
          rw [if_neg h0, if_neg h1, if_neg h2]
          exact decide_eq_false (by omega)
        have e1 : k ≠ 1 := fun h => h0 (by simp [h])
        have e2 : k ≠ 2 := fun h => h0 (by simp [h])
        have e3 : k ≠ 3 := fun h => h0 (by simp [h])
        have e6 : k ≠ 6 := fun h => h0 (by simp [h])
        have e7 : k ≠ 7 := fun h => h0 (by simp [h])
        have e4 : k ≠ 4 := fun h => h1 (by simp [h])
        have e8 : k ≠ 8 := fun h => h1 (by simp [h])
        clear h0 h1
        go_enter Tryz.func36, Tryz.ntmps36
        go_wp2_with fail
        go_ret
        exact ⟨ret_bool HA.out.symm, allocB _ _⟩

end Go.Proofs.YtleejffjnknohaaGreat.S2

namespace Go.Proofs.YtleejffjnknohaaGreat.S2
open Go.RowKit

end Go.Proofs.YtleejffjnknohaaGreat.S2

namespace Go.Proofs.YtleejffjnknohaaGreat.S2
open Go.RowKit

section
variable (w : World) {o : Oper} {a : Act} {K : Act → World → Prop} {Q : Exit → Act → World → Prop}

/-- append onto a row of the call's own; where the row lies is told. -/
theorem wp_appAt (s x : Operand) (t : TypeId) (ho : o.op = .call { callee := .builtin .append, args := #[s, x], argTypes := #[t, t] })
    (base : Nat) (e : TypeId) (i : TypeInfo) (z : Value) (size bytes : Nat) (ht : Tryz.prog.underlying t = some (.slice e)) (hi : Tryz.prog.info? e = some i) (hz : i.zero = some z) (hsize : i.size = size) (hby : i.bytes = bytes) (hzs : z.cells.size = size) (hsz : 0 < size)
    (v : Value) (n : Nat) (xs : List Value) (hs : a.eval s = v) (hown : w.ownsRow base e size v n xs)
    (ad : Addr) (m c : Nat) (news : List Value) (hx : a.eval x = .slice (some ad) m c) (hl : news.length = m * size) (hnews : ∀ j u, news[j]? = some u → w.cell? (ad.add j) = some u) (h1 : ∀ u ∈ news, u.oneCell' = true)
    (h63 : n + m ≤ maxLen) (hbytes : (n + m) * bytes ≤ 140737488355328) (hbase : base ≤ w.heap.size)
    (h : ∀ v' w', w'.ownsRow base e size v' (n + m) (xs ++ news) → w.grownBy w' v.ownBlock → (v'.ownBlock = v.ownBlock ∨ v'.ownBlock = some w.heap.size) → K (a.put o.dst v') w') : o.wp Tryz.prog a w K Q := by
  obtain ⟨v', w', hr, h2, h3, -, h4⟩ := run_append_own_at (P := Tryz.prog) w base t o.type e i z size bytes ht hi hz hsize hby hzs hsz v n xs hown ad m c news hl hnews h1 h63 hbytes hbase
  unfold Oper.wp execOp
  simp only [ho, resolve, invoke, builtin, Sem.run_bind, Sem.run_pure, Result.andThen_ok, List.map_toArray, List.map_cons, List.map_nil, hs, hx, hr]
  exact h v' w' h2 h3 h4

end

/-- The value v is a slice of the call's own (from block 'base' on), or nil, and holds the schemas ys; what is in them lies in other new blocks. -/
structure OwnS (w : World) (base : Nat) (v : Value) (ys : List Sc) : Prop where
  row : w.ownsRow base 24 2 v ys.length (cellsS ys)
  all : ∀ y ∈ ys, y.Inp (fun b => base ≤ b ∧ b < w.heap.size ∧ some b ≠ v.ownBlock) w

theorem OwnS.nil (w : World) (base : Nat) : OwnS w base (.slice none 0 0) [] := ⟨World.ownsRow_nil w base _ _, by simp⟩

theorem OwnS.below {w w' : World} {base : Nat} {v : Value} {ys : List Sc} (h : OwnS w base v ys) (hb : Below w.heap.size w w') : OwnS w' base v ys := by
  refine ⟨World.ownsRow.kept h.row (row := none) ⟨hb.os, hb.tape, hb.output, hb.size, fun k hk _ => hb.block k hk⟩ ?_, fun y hy => ?_⟩
  · cases hv : v.ownBlock with
    | none => exact .inl rfl
    | some k => exact .inr (by simp)
  · exact (Sc.Inp.keep (h.all y hy) fun b hP => hb.block b hP.2.1).mono fun b hP => ⟨hP.1, Nat.lt_of_lt_of_le hP.2.1 hb.size, hP.2.2⟩

theorem OwnS.appended {w w' : World} {base : Nat} {v v' : Value} {ys : List Sc} {s : Sc} (h : OwnS w base v ys) (hs : s.Inp (fun b => base ≤ b ∧ b < w.heap.size ∧ some b ≠ v.ownBlock) w)
    (hrow : w'.ownsRow base 24 2 v' (ys.length + 1) (cellsS ys ++ [.int .i64 s.k, s.v1])) (hg : w.grownBy w' v.ownBlock) (hat : v'.ownBlock = v.ownBlock ∨ v'.ownBlock = some w.heap.size) : OwnS w' base v' (ys ++ [s]) := by
  refine ⟨?_, fun y hy => ?_⟩
  · rw [cellsS_append, List.length_append]
    simpa [cellsS] using hrow
  · have hy' : y.Inp (fun b => base ≤ b ∧ b < w.heap.size ∧ some b ≠ v.ownBlock) w := by
      rcases List.mem_append.1 hy with h1 | h1
      · exact h.all y h1
      · rw [List.mem_singleton.1 h1]; exact hs
    refine (hy'.keep fun b hP => hg.block b hP.2.1 hP.2.2).mono fun b hP => ⟨hP.1, Nat.lt_of_lt_of_le hP.2.1 hg.size, ?_⟩
    rcases hat with e | e
    · rw [e]; exact hP.2.2
    · rw [e]; intro e'; have := Option.some.inj e'; omega

/-- A slice of the call's own, as the list of a schema. -/
theorem OwnS.form {w : World} {base : Nat} {v : Value} {ys : List Sc} (h : OwnS w base v ys) (hlen : ys.length * 32 ≤ 140737488351232) : ∃ A c, v = .slice A ys.length c ∧ ∀ k, (Sc.mk k A c ys).Inp (fun b => base ≤ b ∧ b < w.heap.size) w := by
  have hall : ∀ y ∈ ys, y.Inp (fun b => base ≤ b ∧ b < w.heap.size) w := fun y hy => (h.all y hy).mono fun b hP => ⟨hP.1, hP.2.1⟩
  rcases h.row.2 with ⟨rfl, h0⟩ | ⟨g, cap, cur, rfl, hb, hg, hnc, hcm, hcs, ht⟩
  · have : ys = [] := List.eq_nil_of_length_eq_zero h0
    subst this
    exact ⟨none, 0, rfl, fun k => .mk _ _ _ _ LiesP.nil (by simp) (by simp) (by simp) (by simp)⟩
  · have hlt : g < w.heap.size := (Array.getElem?_eq_some_iff.1 hg).1
    refine ⟨_, cap, rfl, fun k => .mk _ _ _ _ (.inr ⟨g, 0, rfl, ⟨hb, hlt⟩, fun i x hx => ?_⟩) hnc (by unfold maxLen at hcm; omega) hlen hall⟩
    obtain ⟨h1, h2⟩ := cellsS_at hx
    have e1 := World.ownsRow.cells h.row (g := g) rfl _ _ h1
    have e2 := World.ownsRow.cells h.row (g := g) rfl _ _ h2
    rw [Addr.add_lit] at e1 e2
    exact ⟨e1, by rw [show 0 + i * 2 + 1 = 0 + (i * 2 + 1) by omega]; exact e2⟩
end Go.Proofs.YtleejffjnknohaaGreat.S2

namespace Go.Proofs.YtleejffjnknohaaGreat.S2
open Go.RowKit

end Go.Proofs.YtleejffjnknohaaGreat.S2

namespace Go.Proofs.YtleejffjnknohaaGreat.S2
open Go.RowKit

end Go.Proofs.YtleejffjnknohaaGreat.S2

namespace Go.Proofs.YtleejffjnknohaaGreat.S2
open Go.RowKit

theorem drewB (w : World) : Below w.heap.size w w.drew := (Below.refl _ _).drew

theorem cell_at_new {X : World} {n i : Nat} {cs : Array Value} {t : TypeId} {v : Value} (h : X.heap.size = n) (hv : cs[i]? = some v) : (X.alloc (.cells cs t)).cell? ⟨n, i, none⟩ = some v := by
  subst h
  simp [hv]

section
variable {w wl wf : World} {x y : Sc} {PL PS : Nat → Prop} (hL : x.Inp PL wl) (hS : y.Inp PS wf) (hbf : Below w.heap.size w wf) (hlf : ∀ b, b < wl.heap.size → wf.heap[b]? = wl.heap[b]?) (hsz : wl.heap.size ≤ wf.heap.size) (hlt : w.heap.size + 1 < wf.heap.size)
    (hw0 : wf.cell? ⟨w.heap.size + 1, 0, none⟩ = some (.int .i64 0)) (hw1 : wf.cell? ⟨w.heap.size + 1, 1, none⟩ = some (.slice none 0 0)) (hw2 : wf.frozen? ⟨w.heap.size + 1, 0, none⟩ = false) (hw3 : wf.frozen? ⟨w.heap.size + 1, 1, none⟩ = false)
    (hPL : ∀ b, PL b → w.heap.size + 1 + 1 ≤ b ∧ b < wl.heap.size) (hPS : ∀ b, PS b → w.heap.size + 1 + 1 ≤ b ∧ b < wf.heap.size)
include hL hS hbf hlf hsz hlt hw0 hw1 hw2 hw3 hPL hPS

end

end Go.Proofs.YtleejffjnknohaaGreat.S2
