/- ValueLimitsSaid is proved: at every input the law returns true, and each argument reads afterwards as it read before. No condition. What ValueLimits does: it answers true. No condition. Rows of strings that a call owns, and append onto them. No condition. -/
import Derived.Test.YtcpfjjimbnmaoaaRows
import Derived.Test.YtcpfjjimbnmaoaaMt01
import Derived.Deep.RegionLaw
import Derived.Test.YtcpfjjimbnmaoaaMt19
import Derived.WalkKit
import Derived.ProofKit
import Derived.OpenShut
namespace Go.Proofs.Ytcpfjjimbnmaoaa.R1
open Go.RowKit

/-- The cells that hold the strings. -/
def cellsOf (ys : List Str) : List Value := ys.map fun x => Value.string (S x)

theorem cellsOf_get {ys : List Str} {j : Nat} {u : Value} (h : (cellsOf ys)[j]? = some u) : ∃ x, ys[j]? = some x ∧ u = .string (S x) := by
  unfold cellsOf at h
  rw [List.getElem?_map] at h
  cases hx : ys[j]? with
  | none => rw [hx] at h; cases h
  | some x => rw [hx] at h; exact ⟨x, rfl, by simpa using h.symm⟩

theorem cellsOf_at {ys : List Str} {j : Nat} {x : Str} (h : ys[j]? = some x) : (cellsOf ys)[j]? = some (.string (S x)) := by
  unfold cellsOf; rw [List.getElem?_map, h]; rfl

theorem cellsOf_one {ys : List Str} : ∀ u ∈ cellsOf ys, u.oneCell' = true := by
  intro u hu
  obtain ⟨x, _, rfl⟩ := List.mem_map.1 hu
  rfl

theorem cellsOf_len (ys : List Str) : (cellsOf ys).length = ys.length := by simp [cellsOf]
theorem cellsOf_append (xs ys : List Str) : cellsOf (xs ++ ys) = cellsOf xs ++ cellsOf ys := by simp [cellsOf]

/-- The value v is a slice of the call's own (from block 'base' on), or nil, and holds the strings ys. -/
def Own (w : World) (base : Nat) (v : Value) (ys : List Str) : Prop := w.ownsRow base 9 1 v ys.length (cellsOf ys)

theorem Own.nil (w : World) (base : Nat) : Own w base (.slice none 0 0) [] := World.ownsRow_nil w base _ _

theorem Own.form {w : World} {base : Nat} {v : Value} {ys : List Str} (h : Own w base v ys) :
    ∃ A c, v = .slice A ys.length c ∧ ys.length ≤ c ∧ c ≤ maxLen ∧ Lies w A ys := by
  rcases h.2 with ⟨rfl, h0⟩ | ⟨g, cap, cur, rfl, hb, hg, hnc, hcm, hcs, ht⟩
  · have : ys = [] := List.eq_nil_of_length_eq_zero h0
    subst this
    exact ⟨none, 0, rfl, Nat.le_refl _, Nat.zero_le _, .inl rfl⟩
  · refine ⟨_, cap, rfl, hnc, hcm, .inr ⟨g, 0, rfl, ?_, fun i x hx => ?_⟩⟩
    · rcases Nat.lt_or_ge g w.heap.size with hlt | hge
      · exact hlt
      · rw [Array.getElem?_eq_none hge] at hg; cases hg
    · have := World.ownsRow.cells h (g := g) rfl i _ (cellsOf_at hx)
      rwa [Addr.add_lit] at this

theorem Own.lt {w : World} {base : Nat} {v : Value} {ys : List Str} (h : Own w base v ys) {k : Nat} (hk : v.ownBlock = some k) : base ≤ k ∧ k < w.heap.size := World.ownsRow.lt h k hk

theorem Own.alloc {w : World} {base : Nat} {v : Value} {ys : List Str} (h : Own w base v ys) (o : Obj) : Own (w.alloc o) base v ys := World.ownsRow.alloc h o
theorem Own.drewN {w : World} {base : Nat} {v : Value} {ys : List Str} (h : Own w base v ys) (n : Nat) : Own (w.drewN n) base v ys := h
theorem Own.kept {w w' : World} {base : Nat} {v : Value} {ys : List Str} {row : Option Nat} (h : Own w base v ys) (hg : w.grownBy w' row) (hne : v.ownBlock = none ∨ v.ownBlock ≠ row) : Own w' base v ys := World.ownsRow.kept h hg hne

theorem Own.below {w w' : World} {base : Nat} {v : Value} {ys : List Str} (h : Own w base v ys) (hb : Below w.heap.size w w') : Own w' base v ys :=
  h.kept (row := none) ⟨hb.os, hb.tape, hb.output, hb.size, fun k hk _ => hb.block k hk⟩ (by
    cases hv : v.ownBlock with
    | none => exact .inl rfl
    | some k => exact .inr (by simp))

theorem Lies.grown {w w' : World} {A : Option Addr} {xs : List Str} {row : Option Nat} (h : Lies w A xs) (hg : w.grownBy w' row) (hne : ∀ a, A = some a → some a.block ≠ row) : Lies w' A xs := by
  rcases h with h | ⟨b, off, rfl, hb, h⟩
  · exact .inl h
  · exact .inr ⟨b, off, rfl, Nat.lt_of_lt_of_le hb hg.size, fun i x hx => hg.cell (h i x hx) (hne ⟨b, off, none⟩ rfl)⟩

theorem own_snoc {w : World} {base : Nat} {v : Value} {ys : List Str} {x : Str} (h : w.ownsRow base 9 1 v (ys.length + 1) (cellsOf ys ++ [.string (S x)])) : Own w base v (ys ++ [x]) := by
  unfold Own
  rw [cellsOf_append, List.length_append]
  exact h

theorem retL_of_own {w w' : World} {base : Nat} {v : Value} {ys zs : List Str} (h : Own w' base v ys) (e : ys = zs) (hb : Below w.heap.size w w') : RetL w zs (.returned v) w' := by
  subst e
  obtain ⟨A, c, rfl, h1, h2, h3⟩ := h.form
  exact ⟨A, c, rfl, h1, h2, h3, hb⟩

theorem Try.infoStr : (Try.prog.info? 9).map (fun i => (i.zero, i.size, i.bytes)) = some (some (.string { data := #[] }), 1, 16) := by kernel_rfl

section
variable (w : World)

theorem run_app_nil (base : Nat) (t ty : TypeId) (ht : Try.prog.underlying t = some (.slice 9)) (v : Value) (ys : List Str) (hown : Own w base v ys) (c : Nat) :
    (Builtin.append_ #[t, t] ty #[v, .slice none 0 c]).run Try.prog w = .ok v w := by
  obtain ⟨i0, hi, hz0, hz1, hz2⟩ := info_parts Try.infoStr
  rcases hown.2 with ⟨rfl, _⟩ | ⟨g, cap, cur, rfl, _, _, hnc, _⟩
  · simp [Builtin.append_, run_underlying ht, sizeOf, typeInfo, hi, Builtin.lenOf, Builtin.firstCells]
  · simp [Builtin.append_, run_underlying ht, sizeOf, typeInfo, hi, Builtin.lenOf, Builtin.firstCells, hnc, storeCells]

/-- append onto a row of the call's own, of whatever strings. -/
theorem run_app (base : Nat) (t ty : TypeId) (ht : Try.prog.underlying t = some (.slice 9)) (v : Value) (ys : List Str) (hown : Own w base v ys)
    (A : Option Addr) (c : Nat) (news : List Str) (hl : Lies w A news) (hlen : ys.length + news.length ≤ 1000000) (hbase : base ≤ w.heap.size) :
    ∃ v' w', (Builtin.append_ #[t, t] ty #[v, .slice A news.length c]).run Try.prog w = .ok v' w' ∧ Own w' base v' (ys ++ news) ∧ w.grownBy w' v.ownBlock ∧
      (v'.ownBlock = v.ownBlock ∨ v'.ownBlock = some w.heap.size) := by
  obtain ⟨i0, hi, hz0, hz1, hz2⟩ := info_parts Try.infoStr
  cases A with
  | none =>
    have hn : news = [] := by
      rcases hl with h | ⟨b, off, h, _⟩
      · exact h
      · cases h
    subst hn
    exact ⟨v, w, run_app_nil w base t ty ht v ys hown c, by simpa using hown, World.grownBy.refl w _, .inl rfl⟩
  | some a =>
    have hcells : ∀ j u, (cellsOf news)[j]? = some u → w.cell? (a.add j) = some u := by
      intro j u hu
      obtain ⟨x, hx, rfl⟩ := cellsOf_get hu
      rcases hl with h | ⟨b, off, h, _, hc⟩
      · subst h; simp at hx
      · cases h
        rw [Addr.add_lit]
        exact hc j x hx
    obtain ⟨v', w', hr, h2, h3, _, h5⟩ := run_append_own_at (P := Try.prog) w base t ty 9 i0 _ 1 16 ht hi hz0 hz1 hz2 rfl (by omega) v ys.length (cellsOf ys) hown a news.length c (cellsOf news)
      (by rw [cellsOf_len]; omega) hcells cellsOf_one (by unfold maxLen; omega) (by omega) hbase
    refine ⟨v', w', hr, ?_, h3, h5⟩
    unfold Own
    rw [cellsOf_append, List.length_append]
    exact h2

variable {o : Oper} {a : Act} {K : Act → World → Prop} {Q : Exit → Act → World → Prop}

theorem wp_app (s x : Operand) (t : TypeId) (ho : o.op = .call { callee := .builtin .append, args := #[s, x], argTypes := #[t, t] })
    (base : Nat) (ht : Try.prog.underlying t = some (.slice 9)) (v : Value) (ys : List Str) (hs : a.eval s = v) (hown : Own w base v ys)
    (A : Option Addr) (m c : Nat) (news : List Str) (hm : news.length = m) (hx : a.eval x = .slice A m c) (hl : Lies w A news) (hlen : ys.length + news.length ≤ 1000000) (hbase : base ≤ w.heap.size)
    (h : ∀ v' w', Own w' base v' (ys ++ news) → w.grownBy w' v.ownBlock → (v'.ownBlock = v.ownBlock ∨ v'.ownBlock = some w.heap.size) → K (a.put o.dst v') w') : o.wp Try.prog a w K Q := by
  subst hm
  obtain ⟨v', w', hr, h2, h3, h4⟩ := run_app w base t o.type ht v ys hown A c news hl hlen hbase
  unfold Oper.wp execOp
  simp only [ho, resolve, invoke, builtin, Sem.run_bind, Sem.run_pure, Result.andThen_ok, List.map_toArray, List.map_cons, List.map_nil, hs, hx, hr]
  exact h v' w' h2 h3 h4

theorem wpList_app {ops : Array Oper} {rest : List Oper} (hgd : o.guard = none) (s x : Operand) (t : TypeId) (ho : o.op = .call { callee := .builtin .append, args := #[s, x], argTypes := #[t, t] })
    (base : Nat) (ht : Try.prog.underlying t = some (.slice 9)) (v : Value) (ys : List Str) (hs : a.eval s = v) (hown : Own w base v ys)
    (A : Option Addr) (m c : Nat) (news : List Str) (hm : news.length = m) (hx : a.eval x = .slice A m c) (hl : Lies w A news) (hlen : ys.length + news.length ≤ 1000000) (hbase : base ≤ w.heap.size)
    (h : ∀ v' w', Own w' base v' (ys ++ news) → w.grownBy w' v.ownBlock → (v'.ownBlock = v.ownBlock ∨ v'.ownBlock = some w.heap.size) → wpList Try.prog ops Q rest (a.put o.dst v') w') : wpList Try.prog ops Q (o :: rest) a w :=
  wpList_plain hgd fun _ hK => wp_app w s x t ho base ht v ys hs hown A m c news hm hx hl hlen hbase fun v' w' h2 h3 h4 => hK _ _ (h v' w' h2 h3 h4)

theorem step_app {ops : Array Oper} {E : Prop} (hgd : o.guard = none) (s x : Operand) (t : TypeId) (ho : o.op = .call { callee := .builtin .append, args := #[s, x], argTypes := #[t, t] })
    (base : Nat) (ht : Try.prog.underlying t = some (.slice 9)) (v : Value) (ys : List Str) (hs : a.eval s = v) (hown : Own w base v ys)
    (A : Option Addr) (m c : Nat) (news : List Str) (hm : news.length = m) (hx : a.eval x = .slice A m c) (hl : Lies w A news) (hlen : ys.length + news.length ≤ 1000000) (hbase : base ≤ w.heap.size)
    (h : ∀ v' w', Own w' base v' (ys ++ news) → w.grownBy w' v.ownBlock → (v'.ownBlock = v.ownBlock ∨ v'.ownBlock = some w.heap.size) → K (a.put o.dst v') w') :
    if Region.wanted o (yielded ops a.tmps) = true then Oper.wp Try.prog o a w K Q else E := by
  have hw : Region.wanted o (yielded ops a.tmps) = true := by simp [Region.wanted, hgd]
  rw [if_pos hw]
  exact wp_app w s x t ho base ht v ys hs hown A m c news hm hx hl hlen hbase h
end
end Go.Proofs.Ytcpfjjimbnmaoaa.R1

namespace Go.Proofs.Ytcpfjjimbnmaoaa.V4
open Go.RowKit Go.Shelf
open C3 (Tk isC belAl drewB)
open S2 (Sc Tr isT allocB)

/-- The texts aa, ab, .. -/
def tx (i : Nat) : Str := [UInt8.ofNat (97 + i / 26), UInt8.ofNat (97 + i % 26)]
def txs (k : Nat) : List Str := (List.range k).map tx
theorem txs_succ (k : Nat) : txs (k + 1) = txs k ++ [tx k] := by simp [txs, List.range_succ]
theorem txs_len (k : Nat) : (txs k).length = k := by simp [txs]
def zer (j : Nat) : Str := List.replicate j 0

theorem lim_set (k : Nat) (hk : k = 39 ∨ k = 40 ∨ k = 41) : (isT 16 (.mk 3 []) && isV (.mk 3 []) (.mk 0 0 (txs k) [] [])) = decide (k ≤ 40) := by
  have hs : R1.Srt (txs k) := by rcases hk with rfl | rfl | rfl <;> decide +kernel
  have hh : shortV (txs k) = true := by rcases hk with rfl | rfl | rfl <;> decide +kernel
  rw [show isT 16 (.mk 3 []) = true by decide, Bool.true_and, isV, base_mk, fits_3, if_neg (show ¬ (3 : Int) = 7 by decide), hh, decide_eq_true hs, txs_len]
  simp [hasN]
theorem lim_text (j : Nat) : (isT 16 (.mk 3 []) && isV (.mk 3 []) (.mk 0 0 [zer j] [] [])) = decide (j ≤ 16) := by
  rw [show isT 16 (.mk 3 []) = true by decide, Bool.true_and, isV, base_mk, fits_3, if_neg (show ¬ (3 : Int) = 7 by decide)]
  simp [hasN, R1.Srt, shortV, zer]
theorem lim_last (j : Nat) : (isT 16 (.mk 6 []) && isV (.mk 6 []) (.mk 1 0 [zer j] [] [])) = decide (j ≤ 16) := by
  rw [show isT 16 (.mk 6 []) = true by decide, Bool.true_and, isV, base_mk, fits_6, if_neg (show ¬ (6 : Int) = 7 by decide)]
  simp [hasN, R1.Srt, shortV, zer]

theorem Blk.grown {W W' : World} {X : Nat} {t : TypeId} {cs : Array Value} {row : Option Nat} (h : Blk W X t cs) (hg : W.grownBy W' row) (hne : some X ≠ row) : Blk W' X t cs := (hg.block X h.lt hne).trans h
theorem own_set {w : World} {base : Nat} {v : Value} {ys : List Str} (h : R1.Own w base v ys) (X i : Nat) (u : Value) (hX : X < base) : R1.Own (w.setCell ⟨X, i, none⟩ u) base v ys :=
  h.kept (row := some X) ⟨rfl, rfl, rfl, by simp, fun k _ hk => Below.heap_setCell _ _ _ _ (by simpa using hk)⟩ (by
    cases hv : v.ownBlock with
    | none => exact .inl rfl
    | some k => exact .inr (by have := (h.lt hv).1; simp; omega))

/-- x, as far as the loop has made it. -/
def LRel (w : World) (X : Nat) (k : Nat) (W : World) : Prop :=
  ∃ v : Value, Blk W X 30 #[.int .u64 0, .int .u64 0, v, .slice none 0 0, .slice none 0 0] ∧ R1.Own W (X + 1) v (txs k) ∧ Below w.heap.size w W ∧ w.heap.size ≤ X

def madeB (j : Nat) : Array Value := Array.replicate j (.int .u8 0)
theorem make_zero (j : Nat) (hj : j = 15 ∨ j = 16 ∨ j = 17) (w : World) : (Instr.makeSlice 44 (.int .i64 (j : Int)) (.int .i64 (j : Int))).run Try.prog w = .ok (.slice (some ⟨w.heap.size, 0, none⟩) j j) (w.alloc (.cells (madeB j) 5)) := by
  rcases hj with rfl | rfl | rfl <;> kernel_rfl
theorem u_bytes : Try.prog.underlying 44 = some (.slice 5) := by kernel_rfl
theorem u_byte : Try.prog.underlying 5 = some (.int .u8) := by kernel_rfl
theorem u_str : Try.prog.underlying 9 = some .string := by kernel_rfl
theorem conv_zero (j : Nat) (w : World) : (convert 44 9 (.slice (some ⟨w.heap.size, 0, none⟩) j j)).run Try.prog (w.alloc (.cells (madeB j) 5)) = .ok (.string (S (zer j))) (w.alloc (.cells (madeB j) 5)) := by
  have h := run_convert_bytes_back (P := Try.prog) (w.alloc (.cells (madeB j) 5)) 44 9 5 ⟨w.heap.size, 0, none⟩ j (zer j) u_bytes u_byte u_str (fun i hi => by
    rw [Addr.add_lit, Nat.zero_add]
    have hi' : i < j := by simpa [zer] using hi
    exact alloc_cells i _ (by simp [madeB, zer, hi']))
  rw [show (zer j).length = j by simp [zer]] at h
  exact h
theorem conv_tx (k : Nat) (hk : k ≤ 41) (w : World) : (convert 44 9 (.slice (some ⟨w.heap.size, 0, none⟩) 2 2)).run Try.prog (w.alloc (.cells #[.int .u8 (97 + (k : Int) / 26), .int .u8 (97 + (k : Int) % 26)] 5)) = .ok (.string (S (tx k))) (w.alloc (.cells #[.int .u8 (97 + (k : Int) / 26), .int .u8 (97 + (k : Int) % 26)] 5)) :=
  run_convert_bytes_back (P := Try.prog) (w.alloc (.cells #[.int .u8 (97 + (k : Int) / 26), .int .u8 (97 + (k : Int) % 26)] 5)) 44 9 5 ⟨w.heap.size, 0, none⟩ 2 (tx k) u_bytes u_byte u_str (fun i hi => by
    rw [Addr.add_lit, Nat.zero_add]
    have hi' : i < 2 := hi
    refine alloc_cells i _ ?_
    rcases (show i = 0 ∨ i = 1 by omega) with rfl | rfl
    · simp [tx]; omega
    · simp [tx]; omega)

/-- A value of texts alone. -/
def vlT (A : Option Addr) (c : Nat) (ss : List Str) : Vl := .mk 0 0 A c ss none 0 [] none 0 []
theorem vlT_in {W : World} {A : Option Addr} {c : Nat} {ss : List Str} (hl : Lies W A ss) (h1 : ss.length ≤ c) (h2 : c ≤ maxLen) (h3 : ss.length ≤ 1000) (h4 : ∀ s ∈ ss, s.length ≤ 1000) : (vlT A c ss).In W := by
  refine .mk _ _ _ _ _ _ _ _ _ _ _ (by omega) (by omega) ?_ ⟨h1, h2, by omega⟩ (fun s hs => by have := h4 s hs; unfold maxLen; omega) .nil (by simp [maxLen]) (by simp) .nil (by simp [maxLen]) (by simp)
  rcases hl with rfl | ⟨b, off, rfl, hb, hc⟩
  · exact .nil
  · refine .inr ⟨b, off, rfl, hb, fun i u hu => ?_⟩
    obtain ⟨x, hx, rfl⟩ := R1.cellsOf_get hu
    exact hc i x hx

set_option maxRecDepth 100000 in
set_option maxHeartbeats 4000000 in
theorem valueLimits_all (a0 a1 : Int) (w0 : (Lit.int .u8 a0).wf = true) (w1 : (Lit.int .u8 a1).wf = true) (w : World) :
    Calls Try.prog 7 #[.int .u8 a0, .int .u8 a1] w (RetV w (.bool true)) := by
  have h0 := u8_ok w0
  have h1 := u8_ok w1
  clear w0 w1
  go_enter Try.func7, Try.ntmps7
  go_wp2_with fail
  refine (known_any _).mono ?_
  rintro e W ⟨rfl, hB⟩
  go_wp2_with fail
  go_loopw [8] (fun i wr => ∃ (k : Nat), (k : Int) ≤ 39 + a0 % 3 ∧ i = .int .i64 k ∧ LRel w W.heap.size k wr) (fun i _ => 41 - (intOf i).toNat)
  case atStart => exact ⟨0, by omega, rfl, .slice none 0 0, Blk.new W _ _, R1.Own.nil _ _, belAl hB, hB.size⟩
  case round =>
    obtain ⟨k, hk, rfl, v, hx, ho, hB1, hX⟩ := hrel
    have hlt := hx.lt
    have x0 : wr.cell? ⟨W.heap.size, 0, none⟩ = some (.int .u64 0) := hx.cell rfl
    have x1 : wr.cell? ⟨W.heap.size, 1, none⟩ = some (.int .u64 0) := hx.cell rfl
    have x2 : wr.cell? ⟨W.heap.size, 2, none⟩ = some v := hx.cell rfl
    have x3 : wr.cell? ⟨W.heap.size, 3, none⟩ = some (.slice none 0 0) := hx.cell rfl
    have x4 : wr.cell? ⟨W.heap.size, 4, none⟩ = some (.slice none 0 0) := hx.cell rfl
    have f2 := hx.frozen 2
    by_cases hlt2 : (k : Int) < 39 + a0 % 3
    · have hk41 : k < 41 := by omega
      have hcv := conv_tx k (by omega) wr
      have HB := Lib.hid hB1
      have HX := Lib.hid hx
      have hb2 : (97 + (k : Int) / 26) ≤ 255 := by omega
      have hb3 : (97 + (k : Int) % 26) ≤ 255 := by omega
      clear hB hx hB1
      go_wp2_with (at_builtin
                   refine R1.wpList_app _ rfl (.tmp 27) (.tmp 38) _ rfl (W.heap.size + 1) Try.underlying26 _ (txs k) rfl ((ho.alloc _).alloc _) (some ⟨wr.heap.size + 1, 0, none⟩) 1 1 [tx k] rfl rfl ?ql ?qn ?qb ?_
                   case ql => exact .inr ⟨wr.heap.size + 1, 0, rfl, by simp, fun i x hx => by (have := (List.getElem?_eq_some_iff.1 hx).1; simp at this; subst this; simp at hx; subst hx; simp)⟩
                   case qn => (rw [txs_len]; simp; omega)
                   case qb => (simp; omega)
                   intro v2 w2 hown2 hg2 hat2
                   obtain ⟨A2, c2, hv2, -⟩ := hown2.form
                   generalize (txs k ++ [tx k]).length = n2 at hv2
                   subst hv2
                   have hx2 := ((HX.out.later (allocB _ _)).later (allocB _ _)).grown hg2 (fun e => by have := (ho.lt e.symm).1; omega)
                   have hbw2 : Below w.heap.size w w2 := (belAl (belAl HB.out)).grown hg2 (by have := HB.out.size; simp; omega) (fun k hk => by have := (ho.lt hk).1; omega)
                   have f2' := hx2.frozen 2
                   have x2' : w2.cell? ⟨W.heap.size, 2, none⟩ = some v := hx2.cell rfl)
      go_roundw
      case rel => exact ⟨k + 1, by omega, by go_num, _, hx2.set 2 _, own_set (by rw [txs_succ]; exact hown2) _ _ _ (by omega), hbw2.setCell (by simpa using hX) _, hX⟩
      case measure => simp [intOf]; omega
    · have hk3 : k = 39 ∨ k = 40 ∨ k = 41 := by omega
      generalize hkk : 39 + a0 % 3 = kk
      obtain rfl : kk = (k : Int) := by omega
      obtain ⟨j, hj⟩ : ∃ j : Nat, 15 + a1 % 3 = (j : Int) := ⟨(15 + a1 % 3).toNat, by omega⟩
      have hj3 : j = 15 ∨ j = 16 ∨ j = 17 := by omega
      generalize 15 + a1 % 3 = jj at hj
      subst hj
      clear hkk hk hlt2 h0 h1 hB
      obtain ⟨A, c, rfl, c1, c2, hl⟩ := ho.form
      have hin := vlT_in hl c1 c2 (by rw [txs_len]; omega) (fun s hs => by obtain ⟨i, _, rfl⟩ := List.mem_map.1 hs; simp [tx])
      have hmk := fun w => make_zero j hj3 w
      have hcv := fun w => conv_zero j w
      obtain ⟨V, hV⟩ : ∃ V, ((wr.alloc (.cells (madeB j) 5)).alloc (.cells #[.string (S (zer j))] 9)).alloc (.cells #[.int .u64 0, .int .u64 0, .slice (some ⟨wr.heap.size + 1, 0, none⟩) 1 1, .slice none 0 0, .slice none 0 0] 30) = V := ⟨_, rfl⟩
      have hbV : Below wr.heap.size wr V := by rw [← hV]; exact belAl (belAl (belAl (Below.refl _ _)))
      have X0 : Bxd V W.heap.size #[.int .u64 0, .int .u64 0, .slice A (txs k).length c, .slice none 0 0, .slice none 0 0] := hx.bxd.later hbV
      have X1 : Bxd V (wr.heap.size + 1) #[.string (S (zer j))] := by
        rw [← hV]
        have := Bxd.new (W := wr.alloc (.cells (madeB j) 5)) (cs := #[.string (S (zer j))]) (t := 9)
        rw [World.size_alloc] at this
        exact this.al _
      have X2 : Bxd V (wr.heap.size + 1 + 1) #[.int .u64 0, .int .u64 0, .slice (some ⟨wr.heap.size + 1, 0, none⟩) 1 1, .slice none 0 0, .slice none 0 0] := by
        rw [← hV]
        have := Bxd.new (W := (wr.alloc (.cells (madeB j) 5)).alloc (.cells #[.string (S (zer j))] 9)) (cs := #[.int .u64 0, .int .u64 0, .slice (some ⟨wr.heap.size + 1, 0, none⟩) 1 1, .slice none 0 0, .slice none 0 0]) (t := 30)
        rw [World.size_alloc, World.size_alloc] at this
        exact this
      have hz4 : ∀ s ∈ [zer j], s.length ≤ 1000 := fun s hs => by rw [List.mem_singleton.1 hs]; simp [zer]; omega
      have I1 := hin.later hbV
      have I2 : (vlTexts 0 (wr.heap.size + 1) [zer j]).In V := vlTexts_in 0 (by omega) X1 rfl (by simp) hz4
      have I3 : (vlTexts 1 (wr.heap.size + 1) [zer j]).In V := vlTexts_in 1 (by omega) X1 rfl (by simp) hz4
      have M1 : Hid ((isT 16 (scLeaf 3).er && isV (scLeaf 3).er (vlT A c (txs k)).er) = decide ((k : Int) ≤ 40)) := (lim_set k hk3).trans (decide_eq_decide.2 (by omega))
      have M2 : Hid ((isT 16 (scLeaf 3).er && isV (scLeaf 3).er (vlTexts 0 (wr.heap.size + 1) [zer j]).er) = decide ((j : Int) ≤ 16)) := (lim_text j).trans (decide_eq_decide.2 (by omega))
      have M3 : Hid ((isT 16 (scLeaf 6).er && isV (scLeaf 6).er (vlTexts 1 (wr.heap.size + 1) [zer j]).er) = decide ((j : Int) ≤ 16)) := (lim_last j).trans (decide_eq_decide.2 (by omega))
      have HV := Lib.hid (And.intro (And.intro (X0.later (drewB V)) (X2.later (drewB V))) (And.intro (I1.later (drewB V)) (And.intro (I2.later (drewB V)) (I3.later (drewB V)))))
      have HW : Hid (Below w.heap.size w V.drew) := (hB1.trans (hbV.mono hB1.size)).drew
      have HVV := Lib.hid hV
      have c0 : World.cell? V ⟨W.heap.size, 0, none⟩ = some (.int .u64 0) := X0.2 0 _ rfl
      have c1 : World.cell? V ⟨W.heap.size, 1, none⟩ = some (.int .u64 0) := X0.2 1 _ rfl
      have c2 : World.cell? V ⟨W.heap.size, 2, none⟩ = some (.slice A (txs k).length c) := X0.2 2 _ rfl
      have c3 : World.cell? V ⟨W.heap.size, 3, none⟩ = some (.slice none 0 0) := X0.2 3 _ rfl
      have c4 : World.cell? V ⟨W.heap.size, 4, none⟩ = some (.slice none 0 0) := X0.2 4 _ rfl
      have d0 : World.cell? V ⟨wr.heap.size + 1 + 1, 0, none⟩ = some (.int .u64 0) := X2.2 0 _ rfl
      have d1 : World.cell? V ⟨wr.heap.size + 1 + 1, 1, none⟩ = some (.int .u64 0) := X2.2 1 _ rfl
      have d2 : World.cell? V ⟨wr.heap.size + 1 + 1, 2, none⟩ = some (.slice (some ⟨wr.heap.size + 1, 0, none⟩) 1 1) := X2.2 2 _ rfl
      have d3 : World.cell? V ⟨wr.heap.size + 1 + 1, 3, none⟩ = some (.slice none 0 0) := X2.2 3 _ rfl
      have d4 : World.cell? V ⟨wr.heap.size + 1 + 1, 4, none⟩ = some (.slice none 0 0) := X2.2 4 _ rfl
      clear X0 X1 X2 I1 I2 I3 hin hbV hV hl hx ho hB1 hz4
      go_wp2_with fail
      rw [HVV.out]
      clear HVV hmk hcv x0 x1 x2 x3 x4 f2
      refine wp_region_noPanic ?_
      refine wp_region_held_drew (S := (fun w' => World.cell? w' ⟨W.heap.size, 0, none⟩ = some (.int .u64 0) ∧ World.cell? w' ⟨W.heap.size, 1, none⟩ = some (.int .u64 0) ∧ World.cell? w' ⟨W.heap.size, 2, none⟩ = some (.slice A (txs k).length c) ∧ World.cell? w' ⟨W.heap.size, 3, none⟩ = some (.slice none 0 0) ∧ World.cell? w' ⟨W.heap.size, 4, none⟩ = some (.slice none 0 0) ∧ World.cell? w' ⟨wr.heap.size + 1 + 1, 0, none⟩ = some (.int .u64 0) ∧ World.cell? w' ⟨wr.heap.size + 1 + 1, 1, none⟩ = some (.int .u64 0) ∧ World.cell? w' ⟨wr.heap.size + 1 + 1, 2, none⟩ = some (.slice (some ⟨wr.heap.size + 1, 0, none⟩) 1 1) ∧ World.cell? w' ⟨wr.heap.size + 1 + 1, 3, none⟩ = some (.slice none 0 0) ∧ World.cell? w' ⟨wr.heap.size + 1 + 1, 4, none⟩ = some (.slice none 0 0))) (by kernel_rfl) ?_ (fun hHeld => ?_)
      · exact ⟨c0, c1, c2, c3, c4, d0, d1, d2, d3, d4⟩
      refine takeH 1 47 (v := ?q1_v1) rfl rfl (by kernel_rfl) (by kernel_rfl) (by kernel_rfl) (fun _ _ _ h => h) (Or.inl ⟨by rfl, ?q1_h1⟩) (by assumption) ?q1_r1
      case q1_h1 => (intro w hSw; (try dsimp only at hSw); go_simp; try (with_reducible rfl))
      simp only [List.set_cons_zero, List.set_cons_succ]
      refine takeH 3 49 (v := ?q1_v3) rfl rfl (by kernel_rfl) (by kernel_rfl) (by kernel_rfl) (fun _ _ _ h => h) (Or.inl ⟨by rfl, ?q1_h3⟩) (by assumption) ?q1_r3
      case q1_h3 => (intro w hSw; (try dsimp only at hSw); go_simp; try (with_reducible rfl))
      simp only [List.set_cons_zero, List.set_cons_succ]
      refine takeH 4 50 (v := ?q1_v4) rfl rfl (by kernel_rfl) (by kernel_rfl) (by kernel_rfl) (fun _ _ _ h => h) (Or.inl ⟨by rfl, ?q1_h4⟩) (by assumption) ?q1_r4
      case q1_h4 => (intro w hSw; (try dsimp only at hSw); go_simp; try (with_reducible rfl))
      simp only [List.set_cons_zero, List.set_cons_succ]
      refine wpAnyH_ready (rs := [0]) (by kernel_rfl) (by simp) ?_
      refine AllReadyH.cons rfl (fun K hK => ?_) AllReadyH.nil
      go_simp
      go_wp2_with (go_at_call 20; refine (of_any 3 none 0 0 _).mono ?_; rintro e y0 ⟨rfl, hbj⟩; (replace c0 : World.cell? y0 ⟨W.heap.size, 0, none⟩ = some (.int .u64 0) := (HV.out.1.1.later hbj).2 0 _ rfl; replace c1 : World.cell? y0 ⟨W.heap.size, 1, none⟩ = some (.int .u64 0) := (HV.out.1.1.later hbj).2 1 _ rfl; replace c2 : World.cell? y0 ⟨W.heap.size, 2, none⟩ = some (.slice A (txs k).length c) := (HV.out.1.1.later hbj).2 2 _ rfl; replace c3 : World.cell? y0 ⟨W.heap.size, 3, none⟩ = some (.slice none 0 0) := (HV.out.1.1.later hbj).2 3 _ rfl; replace c4 : World.cell? y0 ⟨W.heap.size, 4, none⟩ = some (.slice none 0 0) := (HV.out.1.1.later hbj).2 4 _ rfl; replace d0 : World.cell? y0 ⟨wr.heap.size + 1 + 1, 0, none⟩ = some (.int .u64 0) := (HV.out.1.2.later hbj).2 0 _ rfl; replace d1 : World.cell? y0 ⟨wr.heap.size + 1 + 1, 1, none⟩ = some (.int .u64 0) := (HV.out.1.2.later hbj).2 1 _ rfl; replace d2 : World.cell? y0 ⟨wr.heap.size + 1 + 1, 2, none⟩ = some (.slice (some ⟨wr.heap.size + 1, 0, none⟩) 1 1) := (HV.out.1.2.later hbj).2 2 _ rfl; replace d3 : World.cell? y0 ⟨wr.heap.size + 1 + 1, 3, none⟩ = some (.slice none 0 0) := (HV.out.1.2.later hbj).2 3 _ rfl; replace d4 : World.cell? y0 ⟨wr.heap.size + 1 + 1, 4, none⟩ = some (.slice none 0 0) := (HV.out.1.2.later hbj).2 4 _ rfl; replace HV := Lib.hid (And.intro (And.intro (HV.out.1.1.later hbj) (HV.out.1.2.later hbj)) (And.intro (HV.out.2.1.later hbj) (And.intro (HV.out.2.2.1.later hbj) (HV.out.2.2.2.later hbj)))); replace HW := Lib.hid (HW.out.trans (hbj.mono HW.out.size)); clear hbj))
      refine hK.out _ _ ?_ (fun hHeld => ?_)
      · exact ⟨c0, c1, c2, c3, c4, d0, d1, d2, d3, d4⟩
      clear hK K
      refine wpAnyH_ready (rs := [2]) (by kernel_rfl) (by simp) ?_
      refine AllReadyH.cons rfl (fun K hK => ?_) AllReadyH.nil
      go_simp
      go_wp2_with (go_at_call 9; refine (Is_any (scLeaf 3) (vlT A c (txs k)) _ (scLeaf_in _ _ _) HV.out.2.1).mono ?_; rintro e y1 ⟨rfl, hbj⟩; (rw [M1.out]; replace c0 : World.cell? y1 ⟨W.heap.size, 0, none⟩ = some (.int .u64 0) := (HV.out.1.1.later hbj).2 0 _ rfl; replace c1 : World.cell? y1 ⟨W.heap.size, 1, none⟩ = some (.int .u64 0) := (HV.out.1.1.later hbj).2 1 _ rfl; replace c2 : World.cell? y1 ⟨W.heap.size, 2, none⟩ = some (.slice A (txs k).length c) := (HV.out.1.1.later hbj).2 2 _ rfl; replace c3 : World.cell? y1 ⟨W.heap.size, 3, none⟩ = some (.slice none 0 0) := (HV.out.1.1.later hbj).2 3 _ rfl; replace c4 : World.cell? y1 ⟨W.heap.size, 4, none⟩ = some (.slice none 0 0) := (HV.out.1.1.later hbj).2 4 _ rfl; replace d0 : World.cell? y1 ⟨wr.heap.size + 1 + 1, 0, none⟩ = some (.int .u64 0) := (HV.out.1.2.later hbj).2 0 _ rfl; replace d1 : World.cell? y1 ⟨wr.heap.size + 1 + 1, 1, none⟩ = some (.int .u64 0) := (HV.out.1.2.later hbj).2 1 _ rfl; replace d2 : World.cell? y1 ⟨wr.heap.size + 1 + 1, 2, none⟩ = some (.slice (some ⟨wr.heap.size + 1, 0, none⟩) 1 1) := (HV.out.1.2.later hbj).2 2 _ rfl; replace d3 : World.cell? y1 ⟨wr.heap.size + 1 + 1, 3, none⟩ = some (.slice none 0 0) := (HV.out.1.2.later hbj).2 3 _ rfl; replace d4 : World.cell? y1 ⟨wr.heap.size + 1 + 1, 4, none⟩ = some (.slice none 0 0) := (HV.out.1.2.later hbj).2 4 _ rfl; replace HV := Lib.hid (And.intro (And.intro (HV.out.1.1.later hbj) (HV.out.1.2.later hbj)) (And.intro (HV.out.2.1.later hbj) (And.intro (HV.out.2.2.1.later hbj) (HV.out.2.2.2.later hbj)))); replace HW := Lib.hid (HW.out.trans (hbj.mono HW.out.size)); clear hbj))
      refine hK.out _ _ ?_ (fun hHeld => ?_)
      · exact ⟨c0, c1, c2, c3, c4, d0, d1, d2, d3, d4⟩
      clear hK K
      refine takeH 5 51 (v := ?q1_v5) rfl rfl (by kernel_rfl) (by kernel_rfl) (by kernel_rfl) (fun _ _ _ h => h) (Or.inl ⟨by rfl, ?q1_h5⟩) (by assumption) ?q1_r5
      case q1_h5 => (intro w hSw; (try dsimp only at hSw); go_simp; try (with_reducible rfl))
      simp only [List.set_cons_zero, List.set_cons_succ]
      refine takeH 6 52 (v := ?q1_v6) rfl rfl (by kernel_rfl) (by kernel_rfl) (by kernel_rfl) (fun _ _ _ h => h) (Or.inl ⟨by rfl, ?q1_h6⟩) (by assumption) ?q1_r6
      case q1_h6 => (intro w hSw; (try dsimp only at hSw); go_simp; try (with_reducible rfl))
      simp only [List.set_cons_zero, List.set_cons_succ]
      refine takeH 8 54 (v := ?q1_v8) rfl rfl (by kernel_rfl) (by kernel_rfl) (by kernel_rfl) (fun _ _ _ h => h) (Or.inl ⟨by rfl, ?q1_h8⟩) (by assumption) ?q1_r8
      case q1_h8 => (intro w hSw; (try dsimp only at hSw); go_simp; try (with_reducible rfl))
      simp only [List.set_cons_zero, List.set_cons_succ]
      refine takeH 10 56 (v := ?q1_v10) rfl rfl (by kernel_rfl) (by kernel_rfl) (by kernel_rfl) (fun _ _ _ h => h) (Or.inl ⟨by rfl, ?q1_h10⟩) (by assumption) ?q1_r10
      case q1_h10 => (intro w hSw; (try dsimp only at hSw); go_simp; try (with_reducible rfl))
      simp only [List.set_cons_zero, List.set_cons_succ]
      refine takeH 11 57 (v := ?q1_v11) rfl rfl (by kernel_rfl) (by kernel_rfl) (by kernel_rfl) (fun _ _ _ h => h) (Or.inl ⟨by rfl, ?q1_h11⟩) (by assumption) ?q1_r11
      case q1_h11 => (intro w hSw; (try dsimp only at hSw); go_simp; try (with_reducible rfl))
      simp only [List.set_cons_zero, List.set_cons_succ]
      refine wpAnyH_ready (rs := [7]) (by kernel_rfl) (by simp) ?_
      refine AllReadyH.cons rfl (fun K hK => ?_) AllReadyH.nil
      go_simp
      go_wp2_with (go_at_call 20; refine (of_any 3 none 0 0 _).mono ?_; rintro e y2 ⟨rfl, hbj⟩; (replace c0 : World.cell? y2 ⟨W.heap.size, 0, none⟩ = some (.int .u64 0) := (HV.out.1.1.later hbj).2 0 _ rfl; replace c1 : World.cell? y2 ⟨W.heap.size, 1, none⟩ = some (.int .u64 0) := (HV.out.1.1.later hbj).2 1 _ rfl; replace c2 : World.cell? y2 ⟨W.heap.size, 2, none⟩ = some (.slice A (txs k).length c) := (HV.out.1.1.later hbj).2 2 _ rfl; replace c3 : World.cell? y2 ⟨W.heap.size, 3, none⟩ = some (.slice none 0 0) := (HV.out.1.1.later hbj).2 3 _ rfl; replace c4 : World.cell? y2 ⟨W.heap.size, 4, none⟩ = some (.slice none 0 0) := (HV.out.1.1.later hbj).2 4 _ rfl; replace d0 : World.cell? y2 ⟨wr.heap.size + 1 + 1, 0, none⟩ = some (.int .u64 0) := (HV.out.1.2.later hbj).2 0 _ rfl; replace d1 : World.cell? y2 ⟨wr.heap.size + 1 + 1, 1, none⟩ = some (.int .u64 0) := (HV.out.1.2.later hbj).2 1 _ rfl; replace d2 : World.cell? y2 ⟨wr.heap.size + 1 + 1, 2, none⟩ = some (.slice (some ⟨wr.heap.size + 1, 0, none⟩) 1 1) := (HV.out.1.2.later hbj).2 2 _ rfl; replace d3 : World.cell? y2 ⟨wr.heap.size + 1 + 1, 3, none⟩ = some (.slice none 0 0) := (HV.out.1.2.later hbj).2 3 _ rfl; replace d4 : World.cell? y2 ⟨wr.heap.size + 1 + 1, 4, none⟩ = some (.slice none 0 0) := (HV.out.1.2.later hbj).2 4 _ rfl; replace HV := Lib.hid (And.intro (And.intro (HV.out.1.1.later hbj) (HV.out.1.2.later hbj)) (And.intro (HV.out.2.1.later hbj) (And.intro (HV.out.2.2.1.later hbj) (HV.out.2.2.2.later hbj)))); replace HW := Lib.hid (HW.out.trans (hbj.mono HW.out.size)); clear hbj))
      refine hK.out _ _ ?_ (fun hHeld => ?_)
      · exact ⟨c0, c1, c2, c3, c4, d0, d1, d2, d3, d4⟩
      clear hK K
      refine wpAnyH_ready (rs := [9]) (by kernel_rfl) (by simp) ?_
      refine AllReadyH.cons rfl (fun K hK => ?_) AllReadyH.nil
      go_simp
      go_wp2_with (go_at_call 9; refine (Is_any (scLeaf 3) (vlTexts 0 (wr.heap.size + 1) [zer j]) _ (scLeaf_in _ _ _) HV.out.2.2.1).mono ?_; rintro e y3 ⟨rfl, hbj⟩; (rw [M2.out]; replace c0 : World.cell? y3 ⟨W.heap.size, 0, none⟩ = some (.int .u64 0) := (HV.out.1.1.later hbj).2 0 _ rfl; replace c1 : World.cell? y3 ⟨W.heap.size, 1, none⟩ = some (.int .u64 0) := (HV.out.1.1.later hbj).2 1 _ rfl; replace c2 : World.cell? y3 ⟨W.heap.size, 2, none⟩ = some (.slice A (txs k).length c) := (HV.out.1.1.later hbj).2 2 _ rfl; replace c3 : World.cell? y3 ⟨W.heap.size, 3, none⟩ = some (.slice none 0 0) := (HV.out.1.1.later hbj).2 3 _ rfl; replace c4 : World.cell? y3 ⟨W.heap.size, 4, none⟩ = some (.slice none 0 0) := (HV.out.1.1.later hbj).2 4 _ rfl; replace d0 : World.cell? y3 ⟨wr.heap.size + 1 + 1, 0, none⟩ = some (.int .u64 0) := (HV.out.1.2.later hbj).2 0 _ rfl; replace d1 : World.cell? y3 ⟨wr.heap.size + 1 + 1, 1, none⟩ = some (.int .u64 0) := (HV.out.1.2.later hbj).2 1 _ rfl; replace d2 : World.cell? y3 ⟨wr.heap.size + 1 + 1, 2, none⟩ = some (.slice (some ⟨wr.heap.size + 1, 0, none⟩) 1 1) := (HV.out.1.2.later hbj).2 2 _ rfl; replace d3 : World.cell? y3 ⟨wr.heap.size + 1 + 1, 3, none⟩ = some (.slice none 0 0) := (HV.out.1.2.later hbj).2 3 _ rfl; replace d4 : World.cell? y3 ⟨wr.heap.size + 1 + 1, 4, none⟩ = some (.slice none 0 0) := (HV.out.1.2.later hbj).2 4 _ rfl; replace HV := Lib.hid (And.intro (And.intro (HV.out.1.1.later hbj) (HV.out.1.2.later hbj)) (And.intro (HV.out.2.1.later hbj) (And.intro (HV.out.2.2.1.later hbj) (HV.out.2.2.2.later hbj)))); replace HW := Lib.hid (HW.out.trans (hbj.mono HW.out.size)); clear hbj))
      refine hK.out _ _ ?_ (fun hHeld => ?_)
      · exact ⟨c0, c1, c2, c3, c4, d0, d1, d2, d3, d4⟩
      clear hK K
      refine takeH 12 58 (v := ?q1_v12) rfl rfl (by kernel_rfl) (by kernel_rfl) (by kernel_rfl) (fun _ _ _ h => h) (Or.inl ⟨by rfl, ?q1_h12⟩) (by assumption) ?q1_r12
      case q1_h12 => (intro w hSw; (try dsimp only at hSw); go_simp; try (with_reducible rfl))
      simp only [List.set_cons_zero, List.set_cons_succ]
      refine takeH 13 59 (v := ?q1_v13) rfl rfl (by kernel_rfl) (by kernel_rfl) (by kernel_rfl) (fun _ _ _ h => h) (Or.inl ⟨by rfl, ?q1_h13⟩) (by assumption) ?q1_r13
      case q1_h13 => (intro w hSw; (try dsimp only at hSw); go_simp; try (with_reducible rfl))
      simp only [List.set_cons_zero, List.set_cons_succ]
      refine takeH 14 60 (v := ?q1_v14) rfl rfl (by kernel_rfl) (by kernel_rfl) (by kernel_rfl) (fun _ _ _ h => h) (Or.inl ⟨by rfl, ?q1_h14⟩) (by assumption) ?q1_r14
      case q1_h14 => (intro w hSw; (try dsimp only at hSw); go_simp; try (with_reducible rfl))
      simp only [List.set_cons_zero, List.set_cons_succ]
      refine takeH 16 62 (v := ?q1_v16) rfl rfl (by kernel_rfl) (by kernel_rfl) (by kernel_rfl) (fun _ _ _ h => h) (Or.inl ⟨by rfl, ?q1_h16⟩) (by assumption) ?q1_r16
      case q1_h16 => (intro w hSw; (try dsimp only at hSw); go_simp; try (with_reducible rfl))
      simp only [List.set_cons_zero, List.set_cons_succ]
      refine takeH 17 63 (v := ?q1_v17) rfl rfl (by kernel_rfl) (by kernel_rfl) (by kernel_rfl) (fun _ _ _ h => h) (Or.inl ⟨by rfl, ?q1_h17⟩) (by assumption) ?q1_r17
      case q1_h17 => (intro w hSw; (try dsimp only at hSw); go_simp; try (with_reducible rfl))
      simp only [List.set_cons_zero, List.set_cons_succ]
      refine takeH 18 64 (v := ?q1_v18) rfl rfl (by kernel_rfl) (by kernel_rfl) (by kernel_rfl) (fun _ _ _ h => h) (Or.inl ⟨by rfl, ?q1_h18⟩) (by assumption) ?q1_r18
      case q1_h18 => (intro w hSw; (try dsimp only at hSw); go_simp; try (with_reducible rfl))
      simp only [List.set_cons_zero, List.set_cons_succ]
      refine takeH 20 66 (v := ?q1_v20) rfl rfl (by kernel_rfl) (by kernel_rfl) (by kernel_rfl) (fun _ _ _ h => h) (Or.inl ⟨by rfl, ?q1_h20⟩) (by assumption) ?q1_r20
      case q1_h20 => (intro w hSw; (try dsimp only at hSw); go_simp; try (with_reducible rfl))
      simp only [List.set_cons_zero, List.set_cons_succ]
      refine takeH 21 67 (v := ?q1_v21) rfl rfl (by kernel_rfl) (by kernel_rfl) (by kernel_rfl) (fun _ _ _ h => h) (Or.inl ⟨by rfl, ?q1_h21⟩) (by assumption) ?q1_r21
      case q1_h21 => (intro w hSw; (try dsimp only at hSw); go_simp; try (with_reducible rfl))
      simp only [List.set_cons_zero, List.set_cons_succ]
      refine wpAnyH_ready (rs := [15]) (by kernel_rfl) (by simp) ?_
      refine AllReadyH.cons rfl (fun K hK => ?_) AllReadyH.nil
      go_simp
      go_wp2_with (go_at_call 20; refine (of_any 6 none 0 0 _).mono ?_; rintro e y4 ⟨rfl, hbj⟩; (replace c0 : World.cell? y4 ⟨W.heap.size, 0, none⟩ = some (.int .u64 0) := (HV.out.1.1.later hbj).2 0 _ rfl; replace c1 : World.cell? y4 ⟨W.heap.size, 1, none⟩ = some (.int .u64 0) := (HV.out.1.1.later hbj).2 1 _ rfl; replace c2 : World.cell? y4 ⟨W.heap.size, 2, none⟩ = some (.slice A (txs k).length c) := (HV.out.1.1.later hbj).2 2 _ rfl; replace c3 : World.cell? y4 ⟨W.heap.size, 3, none⟩ = some (.slice none 0 0) := (HV.out.1.1.later hbj).2 3 _ rfl; replace c4 : World.cell? y4 ⟨W.heap.size, 4, none⟩ = some (.slice none 0 0) := (HV.out.1.1.later hbj).2 4 _ rfl; replace d0 : World.cell? y4 ⟨wr.heap.size + 1 + 1, 0, none⟩ = some (.int .u64 0) := (HV.out.1.2.later hbj).2 0 _ rfl; replace d1 : World.cell? y4 ⟨wr.heap.size + 1 + 1, 1, none⟩ = some (.int .u64 0) := (HV.out.1.2.later hbj).2 1 _ rfl; replace d2 : World.cell? y4 ⟨wr.heap.size + 1 + 1, 2, none⟩ = some (.slice (some ⟨wr.heap.size + 1, 0, none⟩) 1 1) := (HV.out.1.2.later hbj).2 2 _ rfl; replace d3 : World.cell? y4 ⟨wr.heap.size + 1 + 1, 3, none⟩ = some (.slice none 0 0) := (HV.out.1.2.later hbj).2 3 _ rfl; replace d4 : World.cell? y4 ⟨wr.heap.size + 1 + 1, 4, none⟩ = some (.slice none 0 0) := (HV.out.1.2.later hbj).2 4 _ rfl; replace HV := Lib.hid (And.intro (And.intro (HV.out.1.1.later hbj) (HV.out.1.2.later hbj)) (And.intro (HV.out.2.1.later hbj) (And.intro (HV.out.2.2.1.later hbj) (HV.out.2.2.2.later hbj)))); replace HW := Lib.hid (HW.out.trans (hbj.mono HW.out.size)); clear hbj))
      refine hK.out _ _ ?_ (fun hHeld => ?_)
      · exact ⟨c0, c1, c2, c3, c4, d0, d1, d2, d3, d4⟩
      clear hK K
      refine wpAnyH_ready (rs := [19]) (by kernel_rfl) (by simp) ?_
      refine AllReadyH.cons rfl (fun K hK => ?_) AllReadyH.nil
      go_simp
      go_wp2_with (go_at_call 9; refine (Is_any (scLeaf 6) (vlTexts 1 (wr.heap.size + 1) [zer j]) _ (scLeaf_in _ _ _) HV.out.2.2.2).mono ?_; rintro e y5 ⟨rfl, hbj⟩; (rw [M3.out]; replace c0 : World.cell? y5 ⟨W.heap.size, 0, none⟩ = some (.int .u64 0) := (HV.out.1.1.later hbj).2 0 _ rfl; replace c1 : World.cell? y5 ⟨W.heap.size, 1, none⟩ = some (.int .u64 0) := (HV.out.1.1.later hbj).2 1 _ rfl; replace c2 : World.cell? y5 ⟨W.heap.size, 2, none⟩ = some (.slice A (txs k).length c) := (HV.out.1.1.later hbj).2 2 _ rfl; replace c3 : World.cell? y5 ⟨W.heap.size, 3, none⟩ = some (.slice none 0 0) := (HV.out.1.1.later hbj).2 3 _ rfl; replace c4 : World.cell? y5 ⟨W.heap.size, 4, none⟩ = some (.slice none 0 0) := (HV.out.1.1.later hbj).2 4 _ rfl; replace d0 : World.cell? y5 ⟨wr.heap.size + 1 + 1, 0, none⟩ = some (.int .u64 0) := (HV.out.1.2.later hbj).2 0 _ rfl; replace d1 : World.cell? y5 ⟨wr.heap.size + 1 + 1, 1, none⟩ = some (.int .u64 0) := (HV.out.1.2.later hbj).2 1 _ rfl; replace d2 : World.cell? y5 ⟨wr.heap.size + 1 + 1, 2, none⟩ = some (.slice (some ⟨wr.heap.size + 1, 0, none⟩) 1 1) := (HV.out.1.2.later hbj).2 2 _ rfl; replace d3 : World.cell? y5 ⟨wr.heap.size + 1 + 1, 3, none⟩ = some (.slice none 0 0) := (HV.out.1.2.later hbj).2 3 _ rfl; replace d4 : World.cell? y5 ⟨wr.heap.size + 1 + 1, 4, none⟩ = some (.slice none 0 0) := (HV.out.1.2.later hbj).2 4 _ rfl; replace HV := Lib.hid (And.intro (And.intro (HV.out.1.1.later hbj) (HV.out.1.2.later hbj)) (And.intro (HV.out.2.1.later hbj) (And.intro (HV.out.2.2.1.later hbj) (HV.out.2.2.2.later hbj)))); replace HW := Lib.hid (HW.out.trans (hbj.mono HW.out.size)); clear hbj))
      refine hK.out _ _ ?_ (fun hHeld => ?_)
      · exact ⟨c0, c1, c2, c3, c4, d0, d1, d2, d3, d4⟩
      clear hK K
      refine takeH 22 68 (v := ?q1_v22) rfl rfl (by kernel_rfl) (by kernel_rfl) (by kernel_rfl) (fun _ _ _ h => h) (Or.inl ⟨by rfl, ?q1_h22⟩) (by assumption) ?q1_r22
      case q1_h22 => (intro w hSw; (try dsimp only at hSw); go_simp; try (with_reducible rfl))
      simp only [List.set_cons_zero, List.set_cons_succ]
      refine takeH 23 69 (v := ?q1_v23) rfl rfl (by kernel_rfl) (by kernel_rfl) (by kernel_rfl) (fun _ _ _ h => h) (Or.inl ⟨by rfl, ?q1_h23⟩) (by assumption) ?q1_r23
      case q1_h23 => (intro w hSw; (try dsimp only at hSw); go_simp; try (with_reducible rfl))
      simp only [List.set_cons_zero, List.set_cons_succ]
      refine takeH 24 4 (v := ?q1_v24) rfl rfl (by kernel_rfl) (by kernel_rfl) (by kernel_rfl) (fun _ _ _ h => h) (Or.inl ⟨by rfl, ?q1_h24⟩) (by assumption) ?q1_r24
      case q1_h24 => (intro w hSw; (try dsimp only at hSw); go_simp; try (with_reducible rfl))
      simp only [List.set_cons_zero, List.set_cons_succ]
      refine wpAnyH_done (by kernel_rfl) ?_ _
      refine NoPanic.normal ?_
      go_wp2_with fail
      go_ret
      exact ⟨by simp, HW.out⟩
end Go.Proofs.Ytcpfjjimbnmaoaa.V4

namespace Go.Proofs.Ytcpfjjimbnmaoaa
open Go.ChangeShapes Go.WideShapes Go.ChangeAt Go.RowKit

set_option maxRecDepth 100000 in
theorem valueLimits_lifted (os : Os) (started : os.Started) (H : Type) (enc : TypeId × Value → H) :
    ReturnsInHanded {} Try.checked os 7 .any (Rows.valueLimitsSpec.pre6 enc Try.prog Try.f7 Rows.valueLimitsRow.domain false) (Rows.valueLimitsSpec.post enc Try.prog Try.f7 false true false false) := by
  refine returnsInHanded_of_change (C := Try.checked) (by kernel_rfl) started (by kernel_rfl) Try.func7
    (ChangeSpec.witness6 (enc := enc) (C := Try.checked) false ⟨#[], #[.int .u8 0, .int .u8 0], []⟩ 8 (by kernel_rfl) (by kernel_rfl) (by kernel_rfl) (by kernel_rfl)) ?_
  intro W base args ds gs before hval0 hW _ _
  have hval : ∀ (j : Nat) t v, Try.f7.params[j]? = some t → args[j]? = some v → Value.okWide Try.prog W .any base t v := hval0
  have hW' := hW
  obtain ⟨p, q, hA0, hV, rfl, _, _⟩ := hW
  have hA : DataW.TrodAll enc Try.prog W 0 (fun _ => true) true Try.f7.params.toList args.toList ds p := hA0
  rw [Try.params7] at hA hval
  obtain ⟨v0, vs0, d0, ds0, p0, q0, hargs, rfl, rfl, h0, r0⟩ := trodAll_cons hA
  obtain ⟨v1, vs1, d1, ds1, p1, q1, rfl, rfl, rfl, h1, r1⟩ := trodAll_cons r0
  obtain ⟨rfl, rfl, rfl⟩ := trodAll_nil r1
  obtain rfl : args = #[v0, v1] := by cases args; simp_all
  obtain ⟨rfl, rfl⟩ := trodVars_none hV
  obtain ⟨a0, rfl, rfl, rfl, w0⟩ := open_int Try.underlying5 (hval 0 5 v0 rfl rfl) h0
  obtain ⟨a1, rfl, rfl, rfl, w1⟩ := open_int Try.underlying5 (hval 1 5 v1 rfl rfl) h1
  clear hA0 hval0
  simp only [List.append_nil] at hW'
  refine (V4.valueLimits_all a0 a1 w0 w1 W).mono fun e W' ⟨he, bel⟩ => ?_
  subst he
  exact ⟨_, rfl, _, _, _, [], _, [], hW', trodAll_mk1 (shut_bool Try.underlying4 _), (trodAll_cons_mk (shut_int Try.underlying5 w0) (trodAll_cons_mk (shut_int Try.underlying5 w1) trodAll_mk0)), rfl, bel.frame _, fun h => by cases h⟩

theorem valueLimits_holds : Rows.ValueLimitsSaid :=
  OpenClaim.holds_of_wide 7 Try.f7 rfl rfl rfl rfl rfl rfl rfl ⟨rfl, rfl, rfl, rfl, rfl⟩ rfl rfl rfl rfl rfl (by kernel_rfl) Try.func7 (by kernel_rfl)
    (of_decide_eq_true (by kernel_rfl)) (by unfold Func.isWrapper; first | (rw [if_pos (by decide +kernel)]; kernel_rfl) | (rw [if_neg (by decide +kernel)]; exact ⟨rfl, rfl⟩))
    (fun os started H enc _ => valueLimits_lifted os started H enc)
end Go.Proofs.Ytcpfjjimbnmaoaa
