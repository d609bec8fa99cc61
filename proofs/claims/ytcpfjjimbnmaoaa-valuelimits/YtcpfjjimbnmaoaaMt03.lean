/- What value.inside and value.couples give. No condition but that what is handed in lies in memory, and that each value has a schema, or a fellow. What value.couples and value.values give. No condition but that what is handed in lies in memory, and that each value has a fellow. What the reference's functions on schemas do: arity, deep, isSchema. No condition but that the schema lies in memory. What the reference's deep does. No condition but that the schema lies in memory. What the reference's isSchema does. No condition but that the schema lies in memory. What the reference's SameSchema does. No condition but that the schemas lie in memory. -/
import Derived.Test.YtcpfjjimbnmaoaaMt02
import Derived.StillTailTactics
namespace Go.Proofs.Ytcpfjjimbnmaoaa.V4
open Go.RowKit Go.Shelf
open S2 (Sc LiesP)

attribute [local go_sem] Oper.semAt_some

/-- A value with its schema, as it lies in a variable. -/
def cellsT (x : Sc × Vl) : Array Value := #[.int .i64 x.1.k, x.1.v1, .int .u64 x.2.n, .int .u64 x.2.m, x.2.s1, x.2.c1, x.2.v1]
/-- .. as it is handed over. -/
def valT (x : Sc × Vl) : Value := .agg (cellsT x)
def encT (x : Sc × Vl) : Array Value := #[valT x]
/-- Whatever is in the value has a schema. -/
def SafeT (x : Sc × Vl) : Prop := x.2.vs = [] ∨ x.1.ins ≠ []

/-- The two ways out of a round as one. -/
theorem one_way {e : Ending} {p q : Prop} (h : (e = .returned (.bool true) ∧ p) ∨ (e = .returned (.bool false) ∧ q)) : ∃ r : Bool, e = .returned (.bool r) ∧ (if r then p else q) := by
  rcases h with ⟨h1, h2⟩ | ⟨h1, h2⟩
  · exact ⟨true, h1, h2⟩
  · exact ⟨false, h1, h2⟩

set_option maxHeartbeats 400000 in
theorem inside_any (x : Sc × Vl) (w : World) : Calls Try.prog 24 #[valT x] w fun e w' =>
    e = .returned (.func (.func 44) #[] #[.pointer (some ⟨w.heap.size, 0, none⟩)]) ∧ w.alloc (.cells (cellsT x) 48) = w' := by
  obtain ⟨⟨k, A, c, l⟩, xn, xm, xsA, xsc, xss, xcA, xcc, xcs, xvA, xvc, xvs⟩ := x
  unfold valT cellsT
  simp only [Sc.k, Sc.v1, Vl.n, Vl.m, Vl.s1, Vl.c1, Vl.v1]
  go_enter Try.func24, Try.ntmps24
  go_wp2_with fail
  go_ret
  exact ⟨rfl, rfl⟩

set_option maxRecDepth 100000 in
set_option maxHeartbeats 1000000 in
theorem inside_seq (Bt D : Nat) (x : Sc × Vl) (w : World) (h1 : x.1.Inp (Bar D) w) (h2 : x.2.Inp (Bar D) w) (hs : SafeT x) (hBt : ∀ i v, (cellsT x)[i]? = some v → w.cell? ⟨Bt, i, none⟩ = some v) :
    SeqO Try.prog 44 #[.pointer (some ⟨Bt, 0, none⟩)] encT D (fun _ => True) (kidsT x) w := by
  intro l J Jx W hW hJ hJx hY h0
  have hb1 : W.cell? ⟨Bt, 1, none⟩ = some x.1.v1 := (hW.cell (p := ⟨Bt, 1, none⟩) (World.block_lt_of_cell? w _ (hBt 1 _ rfl))).trans (hBt 1 _ rfl)
  have hb6 : W.cell? ⟨Bt, 6, none⟩ = some x.2.v1 := (hW.cell (p := ⟨Bt, 6, none⟩) (World.block_lt_of_cell? w _ (hBt 6 _ rfl))).trans (hBt 6 _ rfl)
  have g1 : x.1.Inp (Bar D) W := sc_kn (B := 0) h1 (KN.of_below hW)
  have g2 : x.2.Inp (Bar D) W := h2.kn (B := 0) (KN.of_below hW)
  have HY := Lib.hid hY
  have HJ := Lib.hid hJ
  clear hY hJ hJx hBt h1 h2 hW
  obtain ⟨⟨k0, A, c, ins⟩, n0, m0, sA, sc, ss, cA, cc, cs, vA, vc, vs⟩ := x
  simp only [Sc.v1, Vl.v1] at hb1 hb6
  obtain ⟨hlS, hnS⟩ : LiesP (Bar D) W A ins ∧ ins.length * 32 ≤ 140737488351232 := by
    cases g1 with
    | mk _ _ _ _ h1 _ _ h3 _ => exact ⟨h1, h3⟩
  obtain ⟨hlV, hnV⟩ : LiesC (Bar D) W vA (cellsV vs) ∧ vs.length * 88 ≤ 140737488351232 := by
    cases g2 with
    | mk _ _ _ _ _ _ _ _ _ _ _ _ _ _ _ _ _ _ _ h9 h10 _ => exact ⟨h9, h10.2.2⟩
  have HS := Lib.hid hlS
  have HV := Lib.hid hlV
  have HSA := Lib.hid hs
  clear g1 g2 hlS hlV hs
  refine (callsIn_wide (n := 6)).1 (callsIn_of_wp Try.func44 rfl trivial ?_ rfl)
  simp only [Try.ntmps44, List.size_toArray, List.length_cons, List.length_nil, Nat.reduceAdd, Nat.reduceSub, Array.replicate_succ, Array.replicate_zero, List.push_toArray, List.append_toArray, List.nil_append, List.cons_append]
  gi_wp2_with fail
  gi_loopw [13] (fun iv wr => ∃ (k : Nat), k ≤ vs.length ∧ iv = .int .i64 k ∧ J k wr ∧ KN D W.heap.size W wr) (fun iv _ => vs.length - (intOf iv).toNat)
  case atStart => exact ⟨0, Nat.zero_le _, rfl, h0, KN.refl _ _ _⟩
  case round =>
    obtain ⟨k, hk, rfl, hJr, hkr⟩ := hrel
    clear h0
    by_cases hlt : k < vs.length
    · obtain ⟨x, hx⟩ : ∃ x, vs[k]? = some x := ⟨_, List.getElem?_eq_getElem hlt⟩
      obtain ⟨b, off, rfl, hb, c0, c1, c2, c3, c4⟩ := value_at HV.out hx
      replace c0 := hkr.cell hb c0
      replace c1 := hkr.cell hb c1
      replace c2 := hkr.cell hb c2
      replace c3 := hkr.cell hb c3
      replace c4 := hkr.cell hb c4
      have hbb := World.block_lt_of_cell? wr _ c0
      simp only at hbb
      have hi0 : 0 < ins.length := by
        rcases HSA.out with h | h
        · simp only [Vl.vs] at h; subst h; simp at hlt
        · exact List.length_pos_iff.2 h
      obtain ⟨q, hq⟩ : ∃ q, min k (ins.length - 1) = q := ⟨_, rfl⟩
      have hql : q < ins.length := by omega
      obtain ⟨y, hy0⟩ : ∃ y, ins[q]? = some y := ⟨_, List.getElem?_eq_getElem hql⟩
      obtain ⟨b', off', rfl, hb', hc'⟩ : ∃ b off, A = some ⟨b, off, none⟩ ∧ Bar D b ∧ ∀ i x, ins[i]? = some x → W.cell? ⟨b, off + i * 2, none⟩ = some (.int .i64 x.k) ∧ W.cell? ⟨b, off + i * 2 + 1, none⟩ = some x.v1 := by
        rcases HS.out with h | h
        · subst h; simp at hql
        · exact h
      have d0 := hkr.cell hb' (hc' q y hy0).1
      have d1 := hkr.cell hb' (hc' q y hy0).2
      have hbb' := World.block_lt_of_cell? wr _ d0
      simp only at hbb'
      have hkid : (kidsT (Sc.mk k0 (some ⟨b', off', none⟩) c ins, Vl.mk n0 m0 sA sc ss cA cc cs (some ⟨b, off, none⟩) vc vs))[k]? = some (y, x) := by
        rw [kidsT_at]
        simp only [Vl.vs, hx, Option.map_some, Sc.ins, scAt, hq, hy0, Option.getD_some]
      have HX := Lib.hid hkid
      clear hkid hx hc' hy0
      have hbr : Below wr.heap.size wr (wr.alloc (.cells #[.int .u64 x.n, .int .u64 x.m, x.s1, x.c1, x.v1] 30)) := (Below.refl _ wr).alloc (Nat.le_refl _) _
      obtain ⟨xn, xm, xsA, xsc, xss, xcA, xcc, xcs, xvA, xvc, xvs⟩ := x
      obtain ⟨yk, yA, yc, yl⟩ := y
      simp only [Vl.n, Vl.m, Vl.s1, Vl.c1, Vl.v1, Sc.k, Sc.v1] at c0 c1 c2 c3 c4 d0 d1
      simp only [Vl.n, Vl.m, Vl.s1, Vl.c1, Vl.v1] at hbr
      have hbr2 : Below wr.heap.size wr (wr.alloc (.cells #[.int .u64 xn, .int .u64 xm, .slice xsA xss.length xsc, .slice xcA xcs.length xcc, .slice xvA xvs.length xvc] 30)).drew := ⟨hbr.os, hbr.tape, hbr.output, hbr.size, hbr.block⟩
      obtain ⟨fn, tmps, assign, body, hy, hR⟩ := yield_any (m' := 5) (HY.out k _ _ HX.out (HJ.out _ _ _ hJr (hbr2.mono hkr.size)) (Nat.le_trans hkr.size hbr2.size))
      unfold encT valT cellsT at hy
      simp only [Sc.k, Sc.v1, Vl.n, Vl.m, Vl.s1, Vl.c1, Vl.v1] at hy
      have hmn : min (k : Int) (IntKind.i64.wrap ((ins.length : Int) - 1)) = (q : Int) := by
        have : IntKind.i64.wrap ((ins.length : Int) - 1) = (ins.length : Int) - 1 := IntWalk.i64_in _ (by omega)
        rw [this]; omega
      clear hq
      have hmx : Try.prog.follows .mixedOrders = true := by kernel_rfl
      have hR2 := hR.mono fun e W' h => one_way h
      clear hR
      gi_wp2_with fail
      gi_region_with_o (refine hR2.mono ?_; rintro e W5 ⟨r, rfl, hr⟩)
      all_goals (
        clear hR2 hy c0 c1 c2 c3 c4 d0 d1
        cases r with
        | true =>
          obtain ⟨hJ5, hk5, -⟩ := hr
          have hk6 : KN D W.heap.size W W5 := hkr.trans ((KN.of_below hbr2).trans hk5)
          clear hk5 hbr2 hbr hkr hJr
          gi_wp2_with fail
          go_roundw
          case rel => exact ⟨k + 1, by omega, by go_num, hJ5, hk6⟩
          case measure => simp [intOf]; omega
        | false =>
          gi_wp2_with fail
          refine bodyPost_ret (results_none rfl _ _ _) rfl ?_
          exact ⟨⟨_, rfl⟩, .inr ⟨k, by rw [kidsT_len]; exact hlt, hr.1⟩⟩)
    · gi_wp2_with fail
      go_end0
      have hke : k = vs.length := by omega
      refine ⟨⟨_, rfl⟩, .inl ?_⟩
      rw [kidsT_len]
      exact hke ▸ hJr
end Go.Proofs.Ytcpfjjimbnmaoaa.V4

namespace Go.Proofs.Ytcpfjjimbnmaoaa.V4
open Go.RowKit Go.Shelf
open S2 (Sc LiesP)

attribute [local go_sem] Oper.semAt_some

/-- Two values, as they lie in a variable. -/
def cellsK (x : Vl × Vl) : Array Value := #[.int .u64 x.1.n, .int .u64 x.1.m, x.1.s1, x.1.c1, x.1.v1, .int .u64 x.2.n, .int .u64 x.2.m, x.2.s1, x.2.c1, x.2.v1]
/-- .. as they are handed over. -/
def valK (x : Vl × Vl) : Value := .agg (cellsK x)
def encK (x : Vl × Vl) : Array Value := #[valK x]
/-- Whatever is in the one has a fellow in the other. -/
def SafeK (x : Vl × Vl) : Prop := x.1.vs.length ≤ x.2.vs.length

theorem kidsC_len (x : Vl × Vl) (h : SafeK x) : (kidsC x).length = x.1.vs.length := by unfold SafeK at h; simp [kidsC]; omega

set_option maxHeartbeats 400000 in
theorem couples_any (x : Vl × Vl) (w : World) : Calls Try.prog 34 #[valK x] w fun e w' =>
    e = .returned (.func (.func 54) #[] #[.pointer (some ⟨w.heap.size, 0, none⟩)]) ∧ w.alloc (.cells (cellsK x) 59) = w' := by
  obtain ⟨⟨yn, ym, ysA, ysc, yss, ycA, ycc, ycs, yvA, yvc, yvs⟩, xn, xm, xsA, xsc, xss, xcA, xcc, xcs, xvA, xvc, xvs⟩ := x
  unfold valK cellsK
  simp only [Vl.n, Vl.m, Vl.s1, Vl.c1, Vl.v1]
  go_enter Try.func34, Try.ntmps34
  go_wp2_with fail
  go_ret
  exact ⟨rfl, rfl⟩

set_option maxHeartbeats 400000 in
theorem values_any (x : Vl) (w : World) : Calls Try.prog 37 #[x.val] w fun e w' =>
    e = .returned (.func (.func 75) #[] #[.pointer (some ⟨w.heap.size + 1, 0, none⟩)]) ∧
      (w.alloc (.cells #[.int .u64 x.n, .int .u64 x.m, x.s1, x.c1, x.v1] 30)).alloc (.cells #[x.v1] 28) = w' := by
  obtain ⟨xn, xm, xsA, xsc, xss, xcA, xcc, xcs, xvA, xvc, xvs⟩ := x
  simp only [val_mk, Vl.n, Vl.m, Vl.s1, Vl.c1, Vl.v1]
  go_enter Try.func37, Try.ntmps37
  go_wp2_with fail
  refine (values1_any xvA xvc xvs _).mono ?_
  rintro e w' ⟨rfl, rfl⟩
  go_wp2_with fail
  go_ret
  exact ⟨by simp, rfl⟩

set_option maxRecDepth 100000 in
set_option maxHeartbeats 1000000 in
theorem couples_seq (Bt D : Nat) (x : Vl × Vl) (w : World) (h1 : x.1.Inp (Bar D) w) (h2 : x.2.Inp (Bar D) w) (hs : SafeK x) (hBD : Bt ≠ D) (hBt : ∀ i v, (cellsK x)[i]? = some v → w.cell? ⟨Bt, i, none⟩ = some v) :
    SeqO Try.prog 54 #[.pointer (some ⟨Bt, 0, none⟩)] encK D (fun _ => True) (kidsC x) w := by
  intro l J Jx W hW hJ hJx hY h0
  have hb4 : W.cell? ⟨Bt, 4, none⟩ = some x.1.v1 := (hW.cell (p := ⟨Bt, 4, none⟩) (World.block_lt_of_cell? w _ (hBt 4 _ rfl))).trans (hBt 4 _ rfl)
  have hb9 : W.cell? ⟨Bt, 9, none⟩ = some x.2.v1 := (hW.cell (p := ⟨Bt, 9, none⟩) (World.block_lt_of_cell? w _ (hBt 9 _ rfl))).trans (hBt 9 _ rfl)
  have g1 : x.1.Inp (Bar D) W := h1.kn (B := 0) (KN.of_below hW)
  have g2 : x.2.Inp (Bar D) W := h2.kn (B := 0) (KN.of_below hW)
  have HY := Lib.hid hY
  have HJ := Lib.hid hJ
  clear hY hJ hJx hBt h1 h2 hW
  have hkl := kidsC_len x hs
  obtain ⟨⟨n0, m0, sA, sc, ss, cA, cc, cs, vA, vc, vs⟩, n1, m1, sA1, sc1, ss1, cA1, cc1, cs1, vA1, vc1, us⟩ := x
  simp only [Vl.v1] at hb4 hb9
  simp only [SafeK, Vl.vs] at hs hkl
  obtain ⟨hlV, hnV⟩ : LiesC (Bar D) W vA (cellsV vs) ∧ vs.length * 88 ≤ 140737488351232 := by
    cases g1 with
    | mk _ _ _ _ _ _ _ _ _ _ _ _ _ _ _ _ _ _ _ h9 h10 _ => exact ⟨h9, h10.2.2⟩
  obtain ⟨hlU, hnU⟩ : LiesC (Bar D) W vA1 (cellsV us) ∧ us.length * 88 ≤ 140737488351232 := by
    cases g2 with
    | mk _ _ _ _ _ _ _ _ _ _ _ _ _ _ _ _ _ _ _ h9 h10 _ => exact ⟨h9, h10.2.2⟩
  have HU := Lib.hid hlU
  have HV := Lib.hid hlV
  have HKL := Lib.hid hkl
  have HBt : Hid (Bt ≠ D) := hBD
  clear g1 g2 hlU hlV hkl hBD
  refine (callsIn_wide (n := 6)).1 (callsIn_of_wp Try.func54 rfl trivial ?_ rfl)
  simp only [Try.ntmps54, List.size_toArray, List.length_cons, List.length_nil, Nat.reduceAdd, Nat.reduceSub, Array.replicate_succ, Array.replicate_zero, List.push_toArray, List.append_toArray, List.nil_append, List.cons_append]
  gi_wp2_with fail
  gi_loopw [9] (fun iv wr => ∃ (k : Nat), k ≤ vs.length ∧ iv = .int .i64 k ∧ J k wr ∧ KN D W.heap.size W wr) (fun iv _ => vs.length - (intOf iv).toNat)
  case atStart => exact ⟨0, Nat.zero_le _, rfl, h0, KN.refl _ _ _⟩
  case round =>
    obtain ⟨k, hk, rfl, hJr, hkr⟩ := hrel
    clear h0
    by_cases hlt : k < vs.length
    · obtain ⟨x, hx⟩ : ∃ x, vs[k]? = some x := ⟨_, List.getElem?_eq_getElem hlt⟩
      obtain ⟨b, off, rfl, hb, c0, c1, c2, c3, c4⟩ := value_at HV.out hx
      replace c0 := hkr.cell hb c0
      replace c1 := hkr.cell hb c1
      replace c2 := hkr.cell hb c2
      replace c3 := hkr.cell hb c3
      replace c4 := hkr.cell hb c4
      have hbb := World.block_lt_of_cell? wr _ c0
      simp only at hbb
      have hlu : k < us.length := by omega
      obtain ⟨y, hy0⟩ : ∃ y, us[k]? = some y := ⟨_, List.getElem?_eq_getElem hlu⟩
      obtain ⟨b', off', rfl, hb', d0, d1, d2, d3, d4⟩ := value_at HU.out hy0
      replace d0 := hkr.cell hb' d0
      replace d1 := hkr.cell hb' d1
      replace d2 := hkr.cell hb' d2
      replace d3 := hkr.cell hb' d3
      replace d4 := hkr.cell hb' d4
      have hbb' := World.block_lt_of_cell? wr _ d0
      simp only at hbb'
      have e9 := hkr.cell HBt.out hb9
      have hbB := World.block_lt_of_cell? wr _ e9
      simp only at hbB
      have hkid : (kidsC (Vl.mk n0 m0 sA sc ss cA cc cs (some ⟨b, off, none⟩) vc vs, Vl.mk n1 m1 sA1 sc1 ss1 cA1 cc1 cs1 (some ⟨b', off', none⟩) vc1 us))[k]? = some (x, y) := by
        unfold kidsC
        simp only [Vl.vs]
        rw [List.getElem?_zip_eq_some]
        exact ⟨hx, hy0⟩
      have HX := Lib.hid hkid
      clear hkid hx hy0
      have hbr : Below wr.heap.size wr (wr.alloc (.cells #[.int .u64 x.n, .int .u64 x.m, x.s1, x.c1, x.v1] 30)) := (Below.refl _ wr).alloc (Nat.le_refl _) _
      obtain ⟨xn, xm, xsA, xsc, xss, xcA, xcc, xcs, xvA, xvc, xvs⟩ := x
      obtain ⟨yn, ym, ysA, ysc, yss, ycA, ycc, ycs, yvA, yvc, yvs⟩ := y
      simp only [Vl.n, Vl.m, Vl.s1, Vl.c1, Vl.v1] at c0 c1 c2 c3 c4 d0 d1 d2 d3 d4
      simp only [Vl.n, Vl.m, Vl.s1, Vl.c1, Vl.v1] at hbr
      have hbr2 : Below wr.heap.size wr (wr.alloc (.cells #[.int .u64 xn, .int .u64 xm, .slice xsA xss.length xsc, .slice xcA xcs.length xcc, .slice xvA xvs.length xvc] 30)).drew := ⟨hbr.os, hbr.tape, hbr.output, hbr.size, hbr.block⟩
      obtain ⟨fn, tmps, assign, body, hy, hR⟩ := yield_any (m' := 5) (HY.out k _ _ HX.out (HJ.out _ _ _ hJr (hbr2.mono hkr.size)) (Nat.le_trans hkr.size hbr2.size))
      unfold encK valK cellsK at hy
      simp only [Vl.n, Vl.m, Vl.s1, Vl.c1, Vl.v1] at hy
      have hmx : Try.prog.follows .mixedOrders = true := by kernel_rfl
      have hR2 := hR.mono fun e W' h => one_way h
      clear hR
      gi_wp2_with fail
      gi_region_with_o (refine hR2.mono ?_; rintro e W5 ⟨r, rfl, hr⟩)
      all_goals (
        clear hR2 hy c0 c1 c2 c3 c4 d0 d1 d2 d3 d4 e9
        cases r with
        | true =>
          obtain ⟨hJ5, hk5, -⟩ := hr
          have hk6 : KN D W.heap.size W W5 := hkr.trans ((KN.of_below hbr2).trans hk5)
          clear hk5 hbr2 hbr hkr hJr
          gi_wp2_with fail
          go_roundw
          case rel => exact ⟨k + 1, by omega, by go_num, hJ5, hk6⟩
          case measure => simp [intOf]; omega
        | false =>
          gi_wp2_with fail
          refine bodyPost_ret (results_none rfl _ _ _) rfl ?_
          exact ⟨⟨_, rfl⟩, .inr ⟨k, by rw [HKL.out]; exact hlt, hr.1⟩⟩)
    · gi_wp2_with fail
      go_end0
      have hke : k = vs.length := by omega
      refine ⟨⟨_, rfl⟩, .inl ?_⟩
      rw [HKL.out]
      exact hke ▸ hJr
end Go.Proofs.Ytcpfjjimbnmaoaa.V4

namespace Go.Proofs.Ytcpfjjimbnmaoaa.S2
open Go.RowKit

set_option maxHeartbeats 400000 in
theorem arity_any (k : Int) (w : World) : Calls Try.prog 61 #[.int .i64 k] w fun e w' => e = .returned (.int .i64 (arI k)) ∧ w = w' := by
  by_cases h0 : k = 1 ∨ k = 2 ∨ k = 3 ∨ k = 6 ∨ k = 7
  · rcases h0 with rfl | rfl | rfl | rfl | rfl
    all_goals
      go_enter Try.func61, Try.ntmps61
      go_wp2
      go_ret
      exact ⟨ret_int (by decide), rfl⟩
  · by_cases h1 : k = 4 ∨ k = 8
    · rcases h1 with rfl | rfl
      all_goals
        go_enter Try.func61, Try.ntmps61
        go_wp2
        go_ret
        exact ⟨ret_int (by decide), rfl⟩
    · by_cases h2 : k = 5
      · subst h2
        go_enter Try.func61, Try.ntmps61
        go_wp2
        go_ret
        exact ⟨ret_int (by decide), rfl⟩
      · have HA : Hid (arI k = -1) := by show arI k = -1; unfold arI; rw [if_neg h0, if_neg h1, if_neg h2]
        have e1 : k ≠ 1 := fun h => h0 (by simp [h])
        have e2 : k ≠ 2 := fun h => h0 (by simp [h])
        have e3 : k ≠ 3 := fun h => h0 (by simp [h])
        have e6 : k ≠ 6 := fun h => h0 (by simp [h])
        have e7 : k ≠ 7 := fun h => h0 (by simp [h])
        have e4 : k ≠ 4 := fun h => h1 (by simp [h])
        have e8 : k ≠ 8 := fun h => h1 (by simp [h])
        clear h0 h1
        go_enter Try.func61, Try.ntmps61
        go_wp2
        go_ret
        exact ⟨ret_int HA.out.symm, rfl⟩

end Go.Proofs.Ytcpfjjimbnmaoaa.S2

namespace Go.Proofs.Ytcpfjjimbnmaoaa.S2
open Go.RowKit

/-- The deepest of them so far. -/
def dmax (n : Nat) (l : List Sc) (k : Nat) : Nat := ((l.take k).map fun x => deepT n x.er).foldl max 0

theorem dmax_succ {n : Nat} {l : List Sc} {k : Nat} {x : Sc} (hx : l[k]? = some x) : dmax n l (k + 1) = max (dmax n l k) (deepT n x.er) := by
  obtain ⟨hk, he⟩ := List.getElem?_eq_some_iff.1 hx
  unfold dmax
  rw [List.take_succ_eq_append_getElem hk, he, List.map_append, List.foldl_append]
  rfl

theorem dmax_le (n : Nat) (l : List Sc) (k : Nat) : dmax n l k ≤ n := foldl_max_le.2 ⟨by omega, fun x hx => by
  obtain ⟨y, _, rfl⟩ := List.mem_map.1 hx
  exact deepT_le n _⟩

theorem dmax_all {n : Nat} {k0 : Int} {A : Option Addr} {c : Nat} {l : List Sc} {k : Nat} (hk : l.length ≤ k) : dmax n l k + 1 = deepT (n + 1) (Sc.mk k0 A c l).er := by
  unfold dmax
  rw [List.take_of_length_le hk, deepT, er_ins, List.map_map]
  rfl

end Go.Proofs.Ytcpfjjimbnmaoaa.S2

namespace Go.Proofs.Ytcpfjjimbnmaoaa.S2
open Go.RowKit

theorem arity_quiet (k : Int) (w : World) (n : Nat) : Calls Try.prog 61 #[.int .i64 k] (w.drewN n) fun e w' => e = .returned (.int .i64 (arI k)) ∧ ∃ m, w' = w.drewN m :=
  (arity_any k _).mono fun _ _ ⟨h1, h2⟩ => ⟨h1, n, h2.symm⟩

theorem isT_succ (n : Nat) (k : Int) (A : Option Addr) (c : Nat) (l : List Sc) : isT (n + 1) (Sc.mk k A c l).er = (decide ((l.length : Int) = arI k) && l.all fun x => isT n x.er) := by
  rw [isT, er_ins, er_k]
  simp only [Sc.ins, Sc.k, List.length_map, List.all_map]
  rfl

theorem all_take_succ {p : Sc → Bool} {l : List Sc} {k : Nat} {x : Sc} (h0 : (l.take k).all p = true) (hx : l[k]? = some x) (h : p x = true) : (l.take (k + 1)).all p = true := by
  obtain ⟨hk, he⟩ := List.getElem?_eq_some_iff.1 hx
  rw [List.take_succ_eq_append_getElem hk, he, List.all_append, h0]
  simp [h]
theorem all_miss {p : Sc → Bool} {l : List Sc} {k : Nat} {x : Sc} (hx : l[k]? = some x) (h : p x = false) : l.all p = false := by
  rw [List.all_eq_false]
  exact ⟨x, List.mem_of_getElem? hx, by simp [h]⟩

set_option maxHeartbeats 400000 in
theorem refis_any (n : Nat) (hn : n ≤ 1000) : ∀ (N : Int) (s : Sc) (w : World), N = n → s.In w.heap.size w →
    Calls Try.prog 38 #[s.val, .int .i64 N] w (RetV w (.bool (isT n s.er))) := by
  induction n with
  | zero =>
    rintro N ⟨k, A, c, l⟩ w rfl -
    simp only [val_mk]
    go_enter Try.func38, Try.ntmps38
    go_wp2_with fail
    go_quiet (fail)
    go_wp2_with fail
    go_ret
    exact ⟨rfl, below_drewN (allocB _ _) _⟩
  | succ n ih =>
    rintro N ⟨k0, A, c, l⟩ w hN hin
    have hN0 : 0 < N := by omega
    have hN1 : N ≤ 1000 := by omega
    have HN : Hid (N - 1 = n) := by show N - 1 = n; omega
    clear hN
    obtain ⟨hl, hlc, hc32, hall⟩ := hin.out
    clear hin
    have IH := Lib.hid (ih (by omega))
    have HALL := Lib.hid hall
    clear ih hall
    have hdec : decide (N ≤ 0) = false := decide_eq_false (by omega)
    simp only [val_mk]
    rw [isT_succ]
    by_cases har : (l.length : Int) = arI k0
    · rw [decide_eq_true har, Bool.true_and]
      go_enter Try.func38, Try.ntmps38
      go_wp2_with fail
      go_quiet ((go_at_call 61; exact arity_quiet _ _ _))
      go_wp2_with fail
      clear har hdec
      have hbw0 : Below w.heap.size w ((w.alloc (.cells #[.int .i64 k0, .slice A l.length c] 24)).drewN nq) := below_drewN (allocB _ _) _
      go_loopw [5] (fun iv wr => ∃ (k : Nat), k ≤ l.length ∧ iv = .int .i64 k ∧ Hid ((l.take k).all (fun x => isT n x.er) = true) ∧ Below w.heap.size w wr ∧ wr.cell? ⟨w.heap.size, 1, none⟩ = some (.slice A l.length c) ∧ w.heap.size < wr.heap.size) (fun iv _ => l.length - (intOf iv).toNat)
      case atStart => exact ⟨0, Nat.zero_le _, rfl, by simp [Hid], hbw0, by simp, by simp⟩
      case round =>
        obtain ⟨k, hk, rfl, h0, hbw, hbox, hsz⟩ := hrel
        clear hbw0
        by_cases hlt : k < l.length
        · obtain ⟨b, off, rfl, hb, hc⟩ := (hl.below hbw).get hlt
          obtain ⟨x, hx⟩ : ∃ x, l[k]? = some x := ⟨_, List.getElem?_eq_getElem hlt⟩
          obtain ⟨hc0, hc1⟩ := hc k x hx
          have hxin : x.In wr.heap.size wr := ((HALL.out x (List.mem_of_getElem? hx)).later hbw)
          have HX := Lib.hid hx
          clear hx hc hl
          obtain ⟨xk, xA, xc, xl⟩ := x
          simp only [Sc.v1, Sc.k] at hc0 hc1
          obtain ⟨q, hq⟩ : ∃ q, isT n (Sc.mk xk xA xc xl).er = q := ⟨_, rfl⟩
          have HQ := Lib.hid hq
          go_wp2_with fail
          refine (IH.out _ (.mk xk xA xc xl) wr HN.out hxin).mono ?_
          rintro e w' ⟨rfl, hb2⟩
          rw [hq]
          clear hq
          have hbox2 := (hb2.cell (p := ⟨w.heap.size, 1, none⟩) hsz).trans hbox
          cases q with
          | false =>
            go_wp2_with fail
            go_ret
            exact ⟨ret_bool (all_miss HX.out HQ.out).symm, hbw.trans (hb2.mono hbw.size)⟩
          | true =>
            go_wp2_with fail
            go_roundw
            case rel => exact ⟨k + 1, by omega, by go_num, all_take_succ h0.out HX.out HQ.out, hbw.trans (hb2.mono hbw.size), hbox2, Nat.lt_of_lt_of_le hsz hb2.size⟩
            case measure => simp [intOf]; omega
        · go_wp2_with fail
          go_ret
          exact ⟨ret_bool (by have := h0.out; rw [List.take_of_length_le (by omega)] at this; exact this.symm), hbw⟩
    · rw [decide_eq_false har, Bool.false_and]
      go_enter Try.func38, Try.ntmps38
      go_wp2_with fail
      go_quiet ((go_at_call 61; exact arity_quiet _ _ _))
      go_wp2_with fail
      go_ret
      exact ⟨rfl, below_drewN (allocB _ _) _⟩
end Go.Proofs.Ytcpfjjimbnmaoaa.S2

namespace Go.Proofs.Ytcpfjjimbnmaoaa.S2
open Go.RowKit

theorem er_ne_k {k k' : Int} {A A' : Option Addr} {c c' : Nat} {l l' : List Sc} (h : k ≠ k') : decide ((Sc.mk k A c l).er = (Sc.mk k' A' c' l').er) = false := by
  rw [er_mk, er_mk]; simp [h]
theorem er_ne_len {k k' : Int} {A A' : Option Addr} {c c' : Nat} {l l' : List Sc} (h : l.length ≠ l'.length) : decide ((Sc.mk k A c l).er = (Sc.mk k' A' c' l').er) = false := by
  rw [er_mk, er_mk]
  refine decide_eq_false fun e => h ?_
  have := congrArg List.length (Tr.mk.inj e).2
  simpa using this
theorem er_ne_at {k k' : Int} {A A' : Option Addr} {c c' : Nat} {l l' : List Sc} {i : Nat} {x x' : Sc} (hx : l[i]? = some x) (hx' : l'[i]? = some x') (h : decide (x.er = x'.er) = false) : decide ((Sc.mk k A c l).er = (Sc.mk k' A' c' l').er) = false := by
  rw [er_mk, er_mk]
  refine decide_eq_false fun e => of_decide_eq_false h ?_
  have := congrArg (fun z => z[i]?) (Tr.mk.inj e).2
  simpa [hx, hx'] using this
theorem take_er_succ {l l' : List Sc} {i : Nat} {x x' : Sc} (h0 : (l.take i).map Sc.er = (l'.take i).map Sc.er) (hx : l[i]? = some x) (hx' : l'[i]? = some x') (h : decide (x.er = x'.er) = true) :
    (l.take (i + 1)).map Sc.er = (l'.take (i + 1)).map Sc.er := by
  obtain ⟨hk, he⟩ := List.getElem?_eq_some_iff.1 hx
  obtain ⟨hk', he'⟩ := List.getElem?_eq_some_iff.1 hx'
  rw [List.take_succ_eq_append_getElem hk, List.take_succ_eq_append_getElem hk', he, he', List.map_append, List.map_append, h0]
  simp [of_decide_eq_true h]
theorem er_eq_all {k : Int} {A A' : Option Addr} {c c' : Nat} {l l' : List Sc} {i : Nat} (h0 : (l.take i).map Sc.er = (l'.take i).map Sc.er) (hi : l.length ≤ i) (hi' : l'.length ≤ i) : decide ((Sc.mk k A c l).er = (Sc.mk k A' c' l').er) = true := by
  rw [List.take_of_length_le hi, List.take_of_length_le hi'] at h0
  rw [er_mk, er_mk, h0]
  exact decide_eq_true rfl

end Go.Proofs.Ytcpfjjimbnmaoaa.S2
