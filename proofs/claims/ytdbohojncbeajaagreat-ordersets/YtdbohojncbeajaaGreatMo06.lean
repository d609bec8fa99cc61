/- What value.couples and value.values give. No condition but that what is handed in lies in memory, and that each value has a fellow. What the reference's Level does. No condition but that the schema lies in memory. What schema.inside, schema.shaped, schema.leaning do. No condition. What schema.Same does. No condition but that the schemas lie in memory. Rows of schemas that a call owns, and append onto them; what schema.fresh does. No condition but that the schema lies in memory. What schema.renewed and schema.fresh do. No condition but that the schema lies in memory. What schema.fresh does. No condition but that the schema lies in memory. What schema.Cause does. No condition but that the schema lies in memory. -/
import Derived.Test.YtdbohojncbeajaaGreatMo05
import Derived.Test.YtdbohojncbeajaaGreatMo03
import Derived.Deep.RegionHeld3
import Derived.Deep.RegionLaw
import Derived.Deep.DeepCutAuto
namespace Go.Proofs.YtdbohojncbeajaaGreat.V4
open Go.RowKit Go.Shelf
open S2 (Sc LiesP)

attribute [local go_sem] Oper.semAt_some

/-- Two values, as they lie in a variable. -/
def cellsK (x : Vl × Vl) : Array Value := #[.int .u64 x.1.n, .int .u64 x.1.m, x.1.s1, x.1.c1, x.1.v1, .int .u64 x.2.n, .int .u64 x.2.m, x.2.s1, x.2.c1, x.2.v1]
/-- .. as they are handed over. -/
def valK (x : Vl × Vl) : Value := .agg (cellsK x)
def encK (x : Vl × Vl) : Array Value := #[valK x]
/-- Whatever is in the one has a fellow in the other. -/
def SafeK (x : Vl × Vl) : Prop := x.1.vs.length ≤ x.2.vs.length

theorem kidsC_len (x : Vl × Vl) (h : SafeK x) : (kidsC x).length = x.1.vs.length := by unfold SafeK at h; simp [kidsC]; omega

set_option maxHeartbeats 400000 in
theorem couples_any (x : Vl × Vl) (w : World) : Calls Tryz.prog 27 #[valK x] w fun e w' =>
    e = .returned (.func (.func 34) #[] #[.pointer (some ⟨w.heap.size, 0, none⟩)]) ∧ w.alloc (.cells (cellsK x) 69) = w' := by
  obtain ⟨⟨yn, ym, ysA, ysc, yss, ycA, ycc, ycs, yvA, yvc, yvs⟩, xn, xm, xsA, xsc, xss, xcA, xcc, xcs, xvA, xvc, xvs⟩ := x
  unfold valK cellsK
  simp only [Vl.n, Vl.m, Vl.s1, Vl.c1, Vl.v1]
  go_enter Tryz.func27, Tryz.ntmps27
  go_wp2_with fail
  go_ret
  exact ⟨rfl, rfl⟩

set_option maxRecDepth 100000 in
set_option maxHeartbeats 1000000 in
theorem couples_seq (Bt D : Nat) (x : Vl × Vl) (w : World) (h1 : x.1.Inp (Bar D) w) (h2 : x.2.Inp (Bar D) w) (hs : SafeK x) (hBD : Bt ≠ D) (hBt : ∀ i v, (cellsK x)[i]? = some v → w.cell? ⟨Bt, i, none⟩ = some v) :
    SeqO Tryz.prog 34 #[.pointer (some ⟨Bt, 0, none⟩)] encK D (fun _ => True) (kidsC x) w := by
  intro l J Jx W hW hJ hJx hY h0
  have hb4 : W.cell? ⟨Bt, 4, none⟩ = some x.1.v1 := (hW.cell (p := ⟨Bt, 4, none⟩) (World.block_lt_of_cell? w _ (hBt 4 _ rfl))).trans (hBt 4 _ rfl)
  have hb9 : W.cell? ⟨Bt, 9, none⟩ = some x.2.v1 := (hW.cell (p := ⟨Bt, 9, none⟩) (World.block_lt_of_cell? w _ (hBt 9 _ rfl))).trans (hBt 9 _ rfl)
  have g1 : x.1.Inp (Bar D) W := h1.kn (B := 0) (KN.of_below hW)
  have g2 : x.2.Inp (Bar D) W := h2.kn (B := 0) (KN.of_below hW)
  have HY := Lib.hid hY
  have HJ := Lib.hid hJ
  clear hY hJ hJx hBt h1 h2 hW
  have hkl := kidsC_len x hs
  obtain ⟨⟨n0, m0, sA, sc, ss, cA, cc, cs, vA, vc, vs⟩, n1, m1, sA1, sc1, ss1, cA1, cc1, cs1, vA1, vc1, us⟩ := x
  simp only [Vl.v1] at hb4 hb9
  simp only [SafeK, Vl.vs] at hs hkl
  obtain ⟨hlV, hnV⟩ : LiesC (Bar D) W vA (cellsV vs) ∧ vs.length * 88 ≤ 140737488351232 := by
    cases g1 with
    | mk _ _ _ _ _ _ _ _ _ _ _ _ _ _ _ _ _ _ _ h9 h10 _ => exact ⟨h9, h10.2.2⟩
  obtain ⟨hlU, hnU⟩ : LiesC (Bar D) W vA1 (cellsV us) ∧ us.length * 88 ≤ 140737488351232 := by
    cases g2 with
    | mk _ _ _ _ _ _ _ _ _ _ _ _ _ _ _ _ _ _ _ h9 h10 _ => exact ⟨h9, h10.2.2⟩
  have HU := Lib.hid hlU
  have HV := Lib.hid hlV
  have HKL := Lib.hid hkl
  have HBt : Hid (Bt ≠ D) := hBD
  clear g1 g2 hlU hlV hkl hBD
  refine (callsIn_wide (n := 6)).1 (callsIn_of_wp Tryz.func34 rfl trivial ?_ rfl)
  simp only [Tryz.ntmps34, List.size_toArray, List.length_cons, List.length_nil, Nat.reduceAdd, Nat.reduceSub, Array.replicate_succ, Array.replicate_zero, List.push_toArray, List.append_toArray, List.nil_append, List.cons_append]
  gi_wp2_with fail
  gi_loopw [9] (fun iv wr => ∃ (k : Nat), k ≤ vs.length ∧ iv = .int .i64 k ∧ J k wr ∧ KN D W.heap.size W wr) (fun iv _ => vs.length - (intOf iv).toNat)
  case atStart => exact ⟨0, Nat.zero_le _, rfl, h0, KN.refl _ _ _⟩
  case round =>
    obtain ⟨k, hk, rfl, hJr, hkr⟩ := hrel
    clear h0
    by_cases hlt : k < vs.length
    · obtain ⟨x, hx⟩ : ∃ x, vs[k]? = some x := ⟨_, List.getElem?_eq_getElem hlt⟩
      obtain ⟨b, off, rfl, hb, c0, c1, c2, c3, c4⟩ := value_at HV.out hx
      replace c0 := hkr.cell hb c0
      replace c1 := hkr.cell hb c1
      replace c2 := hkr.cell hb c2
      replace c3 := hkr.cell hb c3
      replace c4 := hkr.cell hb c4
      have hbb := World.block_lt_of_cell? wr _ c0
      simp only at hbb
      have hlu : k < us.length := by omega
      obtain ⟨y, hy0⟩ : ∃ y, us[k]? = some y := ⟨_, List.getElem?_eq_getElem hlu⟩
      obtain ⟨b', off', rfl, hb', d0, d1, d2, d3, d4⟩ := value_at HU.out hy0
      replace d0 := hkr.cell hb' d0
      replace d1 := hkr.cell hb' d1
      replace d2 := hkr.cell hb' d2
      replace d3 := hkr.cell hb' d3
      replace d4 := hkr.cell hb' d4
      have hbb' := World.block_lt_of_cell? wr _ d0
      simp only at hbb'
      have e9 := hkr.cell HBt.out hb9
      have hbB := World.block_lt_of_cell? wr _ e9
      simp only at hbB
      have hkid : (kidsC (Vl.mk n0 m0 sA sc ss cA cc cs (some ⟨b, off, none⟩) vc vs, Vl.mk n1 m1 sA1 sc1 ss1 cA1 cc1 cs1 (some ⟨b', off', none⟩) vc1 us))[k]? = some (x, y) := by
        unfold kidsC
        simp only [Vl.vs]
        rw [List.getElem?_zip_eq_some]
        exact ⟨hx, hy0⟩
      have HX := Lib.hid hkid
      clear hkid hx hy0
      have hbr : Below wr.heap.size wr (wr.alloc (.cells #[.int .u64 x.n, .int .u64 x.m, x.s1, x.c1, x.v1] 29)) := (Below.refl _ wr).alloc (Nat.le_refl _) _
      obtain ⟨xn, xm, xsA, xsc, xss, xcA, xcc, xcs, xvA, xvc, xvs⟩ := x
      obtain ⟨yn, ym, ysA, ysc, yss, ycA, ycc, ycs, yvA, yvc, yvs⟩ := y
      simp only [Vl.n, Vl.m, Vl.s1, Vl.c1, Vl.v1] at c0 c1 c2 c3 c4 d0 d1 d2 d3 d4
      simp only [Vl.n, Vl.m, Vl.s1, Vl.c1, Vl.v1] at hbr
      have hbr2 : Below wr.heap.size wr (wr.alloc (.cells #[.int .u64 xn, .int .u64 xm, .slice xsA xss.length xsc, .slice xcA xcs.length xcc, .slice xvA xvs.length xvc] 29)).drew := ⟨hbr.os, hbr.tape, hbr.output, hbr.size, hbr.block⟩
      obtain ⟨fn, tmps, assign, body, hy, hR⟩ := yield_any (m' := 5) (HY.out k _ _ HX.out (HJ.out _ _ _ hJr (hbr2.mono hkr.size)) (Nat.le_trans hkr.size hbr2.size))
      unfold encK valK cellsK at hy
      simp only [Vl.n, Vl.m, Vl.s1, Vl.c1, Vl.v1] at hy
      have hmx : Tryz.prog.follows .mixedOrders = true := by kernel_rfl
      have hR2 := hR.mono fun e W' h => one_way h
      clear hR
      gi_wp2_with fail
      gi_region_with_o (refine hR2.mono ?_; rintro e W5 ⟨r, rfl, hr⟩)
      all_goals (
        clear hR2 hy c0 c1 c2 c3 c4 d0 d1 d2 d3 d4 e9
        cases r with
        | true =>
          obtain ⟨hJ5, hk5, -⟩ := hr
          have hk6 : KN D W.heap.size W W5 := hkr.trans ((KN.of_below hbr2).trans hk5)
          clear hk5 hbr2 hbr hkr hJr
          gi_wp2_with fail
          go_roundw
          case rel => exact ⟨k + 1, by omega, by go_num, hJ5, hk6⟩
          case measure => simp [intOf]; omega
        | false =>
          gi_wp2_with fail
          refine bodyPost_ret (results_none rfl _ _ _) rfl ?_
          exact ⟨⟨_, rfl⟩, .inr ⟨k, by rw [HKL.out]; exact hlt, hr.1⟩⟩)
    · gi_wp2_with fail
      go_end0
      have hke : k = vs.length := by omega
      refine ⟨⟨_, rfl⟩, .inl ?_⟩
      rw [HKL.out]
      exact hke ▸ hJr
end Go.Proofs.YtdbohojncbeajaaGreat.V4

namespace Go.Proofs.YtdbohojncbeajaaGreat.S2
open Go.RowKit

end Go.Proofs.YtdbohojncbeajaaGreat.S2

namespace Go.Proofs.YtdbohojncbeajaaGreat.S2
open Go.RowKit

set_option maxHeartbeats 400000 in
theorem inside_any (s : Sc) (w : World) : Calls Tryz.prog 52 #[s.val] w (RetV w s.v1) := by
  obtain ⟨k0, A, c, l⟩ := s
  simp only [val_mk]
  go_enter Tryz.func52, Tryz.ntmps52
  go_wp2_with fail
  go_ret
  exact ⟨rfl, allocB _ _⟩

/-- It alone, not what is in it. -/
def shapedS (s : Sc) : Bool := decide ((s.ins.length : Int) = arI s.k)

theorem dec_int (n : Nat) (m : Int) : ((n : Int) == m) = decide ((n : Int) = m) := by
  by_cases h : (n : Int) = m <;> simp [h]

set_option maxHeartbeats 400000 in
theorem shaped_any (s : Sc) (w : World) : Calls Tryz.prog 53 #[s.val] w (RetV w (.bool (shapedS s))) := by
  obtain ⟨k, A, c, l⟩ := s
  simp only [val_mk]
  by_cases h0 : k = 1 ∨ k = 2 ∨ k = 3 ∨ k = 6 ∨ k = 7
  · rcases h0 with rfl | rfl | rfl | rfl | rfl
    all_goals
      go_enter Tryz.func53, Tryz.ntmps53
      go_wp2_with fail
      go_ret
      exact ⟨ret_bool (dec_int _ _), allocB _ _⟩
  · by_cases h1 : k = 4 ∨ k = 8
    · rcases h1 with rfl | rfl
      all_goals
        go_enter Tryz.func53, Tryz.ntmps53
        go_wp2_with fail
        go_ret
        exact ⟨ret_bool (dec_int _ _), allocB _ _⟩
    · by_cases h2 : k = 5
      · subst h2
        go_enter Tryz.func53, Tryz.ntmps53
        go_wp2_with fail
        go_ret
        exact ⟨ret_bool (dec_int _ _), allocB _ _⟩
      · have HA : Hid (shapedS (.mk k A c l) = false) := by
          show decide ((l.length : Int) = arI k) = false
          unfold arI
          rw [if_neg h0, if_neg h1, if_neg h2]
          exact decide_eq_false (by omega)
        have e1 : k ≠ 1 := fun h => h0 (by simp [h])
        have e2 : k ≠ 2 := fun h => h0 (by simp [h])
        have e3 : k ≠ 3 := fun h => h0 (by simp [h])
        have e6 : k ≠ 6 := fun h => h0 (by simp [h])
        have e7 : k ≠ 7 := fun h => h0 (by simp [h])
        have e4 : k ≠ 4 := fun h => h1 (by simp [h])
        have e8 : k ≠ 8 := fun h => h1 (by simp [h])
        clear h0 h1
        go_enter Tryz.func53, Tryz.ntmps53
        go_wp2_with fail
        go_ret
        exact ⟨ret_bool HA.out.symm, allocB _ _⟩

end Go.Proofs.YtdbohojncbeajaaGreat.S2

namespace Go.Proofs.YtdbohojncbeajaaGreat.S2
open Go.RowKit

end Go.Proofs.YtdbohojncbeajaaGreat.S2

namespace Go.Proofs.YtdbohojncbeajaaGreat.S2
open Go.RowKit

section
variable (w : World) {o : Oper} {a : Act} {K : Act → World → Prop} {Q : Exit → Act → World → Prop}

/-- append onto a row of the call's own; where the row lies is told. -/
theorem wp_appAt (s x : Operand) (t : TypeId) (ho : o.op = .call { callee := .builtin .append, args := #[s, x], argTypes := #[t, t] })
    (base : Nat) (e : TypeId) (i : TypeInfo) (z : Value) (size bytes : Nat) (ht : Tryz.prog.underlying t = some (.slice e)) (hi : Tryz.prog.info? e = some i) (hz : i.zero = some z) (hsize : i.size = size) (hby : i.bytes = bytes) (hzs : z.cells.size = size) (hsz : 0 < size)
    (v : Value) (n : Nat) (xs : List Value) (hs : a.eval s = v) (hown : w.ownsRow base e size v n xs)
    (ad : Addr) (m c : Nat) (news : List Value) (hx : a.eval x = .slice (some ad) m c) (hl : news.length = m * size) (hnews : ∀ j u, news[j]? = some u → w.cell? (ad.add j) = some u) (h1 : ∀ u ∈ news, u.oneCell' = true)
    (h63 : n + m ≤ maxLen) (hbytes : (n + m) * bytes ≤ 140737488355328) (hbase : base ≤ w.heap.size)
    (h : ∀ v' w', w'.ownsRow base e size v' (n + m) (xs ++ news) → w.grownBy w' v.ownBlock → (v'.ownBlock = v.ownBlock ∨ v'.ownBlock = some w.heap.size) → K (a.put o.dst v') w') : o.wp Tryz.prog a w K Q := by
  obtain ⟨v', w', hr, h2, h3, -, h4⟩ := run_append_own_at (P := Tryz.prog) w base t o.type e i z size bytes ht hi hz hsize hby hzs hsz v n xs hown ad m c news hl hnews h1 h63 hbytes hbase
  unfold Oper.wp execOp
  simp only [ho, resolve, invoke, builtin, Sem.run_bind, Sem.run_pure, Result.andThen_ok, List.map_toArray, List.map_cons, List.map_nil, hs, hx, hr]
  exact h v' w' h2 h3 h4

end

/-- The value v is a slice of the call's own (from block 'base' on), or nil, and holds the schemas ys; what is in them lies in other new blocks. -/
structure OwnS (w : World) (base : Nat) (v : Value) (ys : List Sc) : Prop where
  row : w.ownsRow base 37 2 v ys.length (cellsS ys)
  all : ∀ y ∈ ys, y.Inp (fun b => base ≤ b ∧ b < w.heap.size ∧ some b ≠ v.ownBlock) w

theorem OwnS.nil (w : World) (base : Nat) : OwnS w base (.slice none 0 0) [] := ⟨World.ownsRow_nil w base _ _, by simp⟩

theorem OwnS.below {w w' : World} {base : Nat} {v : Value} {ys : List Sc} (h : OwnS w base v ys) (hb : Below w.heap.size w w') : OwnS w' base v ys := by
  refine ⟨World.ownsRow.kept h.row (row := none) ⟨hb.os, hb.tape, hb.output, hb.size, fun k hk _ => hb.block k hk⟩ ?_, fun y hy => ?_⟩
  · cases hv : v.ownBlock with
    | none => exact .inl rfl
    | some k => exact .inr (by simp)
  · exact (Sc.Inp.keep (h.all y hy) fun b hP => hb.block b hP.2.1).mono fun b hP => ⟨hP.1, Nat.lt_of_lt_of_le hP.2.1 hb.size, hP.2.2⟩

theorem OwnS.appended {w w' : World} {base : Nat} {v v' : Value} {ys : List Sc} {s : Sc} (h : OwnS w base v ys) (hs : s.Inp (fun b => base ≤ b ∧ b < w.heap.size ∧ some b ≠ v.ownBlock) w)
    (hrow : w'.ownsRow base 37 2 v' (ys.length + 1) (cellsS ys ++ [.int .i64 s.k, s.v1])) (hg : w.grownBy w' v.ownBlock) (hat : v'.ownBlock = v.ownBlock ∨ v'.ownBlock = some w.heap.size) : OwnS w' base v' (ys ++ [s]) := by
  refine ⟨?_, fun y hy => ?_⟩
  · rw [cellsS_append, List.length_append]
    simpa [cellsS] using hrow
  · have hy' : y.Inp (fun b => base ≤ b ∧ b < w.heap.size ∧ some b ≠ v.ownBlock) w := by
      rcases List.mem_append.1 hy with h1 | h1
      · exact h.all y h1
      · rw [List.mem_singleton.1 h1]; exact hs
    refine (hy'.keep fun b hP => hg.block b hP.2.1 hP.2.2).mono fun b hP => ⟨hP.1, Nat.lt_of_lt_of_le hP.2.1 hg.size, ?_⟩
    rcases hat with e | e
    · rw [e]; exact hP.2.2
    · rw [e]; intro e'; have := Option.some.inj e'; omega

/-- A slice of the call's own, as the list of a schema. -/
theorem OwnS.form {w : World} {base : Nat} {v : Value} {ys : List Sc} (h : OwnS w base v ys) (hlen : ys.length * 32 ≤ 140737488351232) : ∃ A c, v = .slice A ys.length c ∧ ∀ k, (Sc.mk k A c ys).Inp (fun b => base ≤ b ∧ b < w.heap.size) w := by
  have hall : ∀ y ∈ ys, y.Inp (fun b => base ≤ b ∧ b < w.heap.size) w := fun y hy => (h.all y hy).mono fun b hP => ⟨hP.1, hP.2.1⟩
  rcases h.row.2 with ⟨rfl, h0⟩ | ⟨g, cap, cur, rfl, hb, hg, hnc, hcm, hcs, ht⟩
  · have : ys = [] := List.eq_nil_of_length_eq_zero h0
    subst this
    exact ⟨none, 0, rfl, fun k => .mk _ _ _ _ LiesP.nil (by simp) (by simp) (by simp) (by simp)⟩
  · have hlt : g < w.heap.size := (Array.getElem?_eq_some_iff.1 hg).1
    refine ⟨_, cap, rfl, fun k => .mk _ _ _ _ (.inr ⟨g, 0, rfl, ⟨hb, hlt⟩, fun i x hx => ?_⟩) hnc (by unfold maxLen at hcm; omega) hlen hall⟩
    obtain ⟨h1, h2⟩ := cellsS_at hx
    have e1 := World.ownsRow.cells h.row (g := g) rfl _ _ h1
    have e2 := World.ownsRow.cells h.row (g := g) rfl _ _ h2
    rw [Addr.add_lit] at e1 e2
    exact ⟨e1, by rw [show 0 + i * 2 + 1 = 0 + (i * 2 + 1) by omega]; exact e2⟩
end Go.Proofs.YtdbohojncbeajaaGreat.S2

namespace Go.Proofs.YtdbohojncbeajaaGreat.S2
open Go.RowKit

end Go.Proofs.YtdbohojncbeajaaGreat.S2

namespace Go.Proofs.YtdbohojncbeajaaGreat.S2
open Go.RowKit

end Go.Proofs.YtdbohojncbeajaaGreat.S2

namespace Go.Proofs.YtdbohojncbeajaaGreat.S2
open Go.RowKit

theorem drewB (w : World) : Below w.heap.size w w.drew := (Below.refl _ _).drew

theorem cell_at_new {X : World} {n i : Nat} {cs : Array Value} {t : TypeId} {v : Value} (h : X.heap.size = n) (hv : cs[i]? = some v) : (X.alloc (.cells cs t)).cell? ⟨n, i, none⟩ = some v := by
  subst h
  simp [hv]

section
variable {w wl wf : World} {x y : Sc} {PL PS : Nat → Prop} (hL : x.Inp PL wl) (hS : y.Inp PS wf) (hbf : Below w.heap.size w wf) (hlf : ∀ b, b < wl.heap.size → wf.heap[b]? = wl.heap[b]?) (hsz : wl.heap.size ≤ wf.heap.size) (hlt : w.heap.size + 1 < wf.heap.size)
    (hw0 : wf.cell? ⟨w.heap.size + 1, 0, none⟩ = some (.int .i64 0)) (hw1 : wf.cell? ⟨w.heap.size + 1, 1, none⟩ = some (.slice none 0 0)) (hw2 : wf.frozen? ⟨w.heap.size + 1, 0, none⟩ = false) (hw3 : wf.frozen? ⟨w.heap.size + 1, 1, none⟩ = false)
    (hPL : ∀ b, PL b → w.heap.size + 1 + 1 ≤ b ∧ b < wl.heap.size) (hPS : ∀ b, PS b → w.heap.size + 1 + 1 ≤ b ∧ b < wf.heap.size)
include hL hS hbf hlf hsz hlt hw0 hw1 hw2 hw3 hPL hPS

end

end Go.Proofs.YtdbohojncbeajaaGreat.S2
