/- What value.goInto and value.nested do (value.couple). No condition but that what is handed in lies in memory. What value.goInto and value.nested do (api.Value). No condition but that what is handed in lies in memory. What value.every does, with each of the four questions, given what the question answers. No condition but that what is gone through lies in memory. What the reference's is and Is do, of maps and pairs, and of all. No condition but that what they take lies in memory. -/
import Derived.Test.YtdbohojncbeajaaGreatMo07
import Derived.Test.YtdbohojncbeajaaGreatMo04
namespace Go.Proofs.YtdbohojncbeajaaGreat.V4
open Go.RowKit Go.Shelf
open S2 (Sc LiesP allocB results_cell1)
open C3 (belAl)

attribute [local go_sem] Oper.semAt_some

set_option maxRecDepth 100000 in
set_option maxHeartbeats 2000000 in
theorem goInto_K (l D B : Nat) (zs : List (Vl × Vl)) (J Jx : Nat → World → Prop) (hJ : Ab B J) (hJx : Ab B Jx) (hDB : D < B)
    (hY : ∀ k x W1, zs[k]? = some x → J k W1 → B ≤ W1.heap.size → YieldAt Fence.wide 0 Tryz.prog l (encK x) W1 fun e W' => (e = .returned (.bool true) ∧ J (k + 1) W' ∧ KN D B W1 W' ∧ SafeK x) ∨ (e = .returned (.bool false) ∧ Jx k W' ∧ KF B W1 W')) :
    ∀ (T : Nd (Vl × Vl)) (k0 : Nat) (W : World), Good (MemK D W) SafeK kidsC T → B ≤ W.heap.size → J k0 W → At zs k0 T.pre →
      Calls Tryz.prog 33 #[valK T.lab, .func (.func 27) #[] #[], .func (.yield l) #[] #[]] W fun e W' =>
        (e = .returned (.bool true) ∧ J (k0 + T.pre.length) W' ∧ KN D B W W') ∨ (e = .returned (.bool false) ∧ (∃ k, k < k0 + T.pre.length ∧ Jx k W') ∧ KF B W W') := by
  intro T
  induction T using Nd.ind with
  | h x l0 ih =>
    intro k0 W hg hB h0 hat
    obtain ⟨hmem, hkids, hall⟩ : MemK D W x ∧ (SafeK x → l0.map Nd.lab = kidsC x) ∧ ∀ t ∈ l0, Good (MemK D W) SafeK kidsC t := by
      cases hg with
      | mk _ _ h1 h2 h3 => exact ⟨h1, h2, h3⟩
    rw [Nd.pre] at hat
    rw [Nd.pre]
    have IH := Lib.hid ih
    have HM := Lib.hid (And.intro hmem (And.intro hkids hall))
    have HJ := Lib.hid hJ
    have HJX := Lib.hid hJx
    have HY := Lib.hid hY
    have HAT := Lib.hid hat
    clear ih hg hmem hkids hall hJ hJx hY hat
    obtain ⟨x0, hx0⟩ : ∃ x0, x0 = x := ⟨_, rfl⟩
    obtain ⟨⟨xan, xam, xasA, xasc, xass, xacA, xacc, xacs, xavA, xavc, xavs⟩, xn, xm, xsA, xsc, xss, xcA, xcc, xcs, xvA, xvc, xvs⟩ := x
    have hbV : Below W.heap.size W ((((W.alloc (.cells #[.int .u64 xan, .int .u64 xam, .slice xasA xass.length xasc, .slice xacA xacs.length xacc, .slice xavA xavs.length xavc, .int .u64 xn, .int .u64 xm, .slice xsA xss.length xsc, .slice xcA xcs.length xcc, .slice xvA xvs.length xvc] 69)).alloc (.cells #[.func (.func 27) #[] #[]] 73)).alloc (.cells #[.func (.yield l) #[] #[]] 74)).alloc (.cells #[.bool false] 4)) := belAl (belAl (belAl (belAl (Below.refl _ _))))
    have hJ1 := HJ.out k0 W _ h0 (hbV.mono hB)
    obtain ⟨fn, tmps, assign, body, hy, hR⟩ := yield_any (m' := 5) (HY.out k0 (Vl.mk xan xam xasA xasc xass xacA xacc xacs xavA xavc xavs, Vl.mk xn xm xsA xsc xss xcA xcc xcs xvA xvc xvs) _ (by have := HAT.out 0 _ rfl; simpa using this) hJ1 (Nat.le_trans hB hbV.size))
    unfold encK at hy
    simp only [valK, cellsK, Vl.n, Vl.m, Vl.s1, Vl.c1, Vl.v1] at hy
    have hR2 := hR.mono fun e W' h => one_way h
    clear hR h0 hJ1
    simp only [Nd.lab, valK, cellsK, Vl.n, Vl.m, Vl.s1, Vl.c1, Vl.v1]
    refine (callsIn_wide (n := 6)).1 (callsIn_of_wp_marks Tryz.func33 rfl trivial ?_ rfl)
    simp only [Tryz.ntmps33, List.size_toArray, List.length_cons, List.length_nil, Nat.reduceAdd, Nat.reduceSub, Array.replicate_succ, Array.replicate_zero, List.push_toArray, List.append_toArray, List.nil_append, List.cons_append]
    gi_wp2_with fail
    refine hR2.mono ?_
    clear hy hR2
    rintro e W3 ⟨r, rfl, hr⟩
    have bR : Boxed ((((W.alloc (.cells #[.int .u64 xan, .int .u64 xam, .slice xasA xass.length xasc, .slice xacA xacs.length xacc, .slice xavA xavs.length xavc, .int .u64 xn, .int .u64 xm, .slice xsA xss.length xsc, .slice xcA xcs.length xcc, .slice xvA xvs.length xvc] 69)).alloc (.cells #[.func (.func 27) #[] #[]] 73)).alloc (.cells #[.func (.yield l) #[] #[]] 74)).alloc (.cells #[.bool false] 4)) (W.heap.size + 1 + 1 + 1) 4 (.bool false) := by
      have := Boxed.new (((W.alloc (.cells #[.int .u64 xan, .int .u64 xam, .slice xasA xass.length xasc, .slice xacA xacs.length xacc, .slice xavA xavs.length xavc, .int .u64 xn, .int .u64 xm, .slice xsA xss.length xsc, .slice xcA xcs.length xcc, .slice xvA xvs.length xvc] 69)).alloc (.cells #[.func (.func 27) #[] #[]] 73)).alloc (.cells #[.func (.yield l) #[] #[]] 74)) 4 (.bool false)
      rw [World.size_alloc, World.size_alloc, World.size_alloc] at this
      exact this
    have hb1 : ∀ i v, (#[.int .u64 xan, .int .u64 xam, .slice xasA xass.length xasc, .slice xacA xacs.length xacc, .slice xavA xavs.length xavc, .int .u64 xn, .int .u64 xm, .slice xsA xss.length xsc, .slice xcA xcs.length xcc, .slice xvA xvs.length xvc] : Array Value)[i]? = some v → ((((W.alloc (.cells #[.int .u64 xan, .int .u64 xam, .slice xasA xass.length xasc, .slice xacA xacs.length xacc, .slice xavA xavs.length xavc, .int .u64 xn, .int .u64 xm, .slice xsA xss.length xsc, .slice xcA xcs.length xcc, .slice xvA xvs.length xvc] 69)).alloc (.cells #[.func (.func 27) #[] #[]] 73)).alloc (.cells #[.func (.yield l) #[] #[]] 74)).alloc (.cells #[.bool false] 4)).cell? ⟨W.heap.size, i, none⟩ = some v := fun i v h =>
      ((show Below (W.heap.size + 1) (W.alloc (.cells #[.int .u64 xan, .int .u64 xam, .slice xasA xass.length xasc, .slice xacA xacs.length xacc, .slice xavA xavs.length xavc, .int .u64 xn, .int .u64 xm, .slice xsA xss.length xsc, .slice xcA xcs.length xcc, .slice xvA xvs.length xvc] 69)) ((((W.alloc (.cells #[.int .u64 xan, .int .u64 xam, .slice xasA xass.length xasc, .slice xacA xacs.length xacc, .slice xavA xavs.length xavc, .int .u64 xn, .int .u64 xm, .slice xsA xss.length xsc, .slice xcA xcs.length xcc, .slice xvA xvs.length xvc] 69)).alloc (.cells #[.func (.func 27) #[] #[]] 73)).alloc (.cells #[.func (.yield l) #[] #[]] 74)).alloc (.cells #[.bool false] 4)) from belAl1 (belAl1 (belAl1 (Below.refl _ _) (by simp)) (by simp)) (by simp)).cell (p := ⟨W.heap.size, i, none⟩) (by simp)).trans (alloc_cells i v h)
    have hb2 : ((((W.alloc (.cells #[.int .u64 xan, .int .u64 xam, .slice xasA xass.length xasc, .slice xacA xacs.length xacc, .slice xavA xavs.length xavc, .int .u64 xn, .int .u64 xm, .slice xsA xss.length xsc, .slice xcA xcs.length xcc, .slice xvA xvs.length xvc] 69)).alloc (.cells #[.func (.func 27) #[] #[]] 73)).alloc (.cells #[.func (.yield l) #[] #[]] 74)).alloc (.cells #[.bool false] 4)).cell? ⟨W.heap.size + 1, 0, none⟩ = some (.func (.func 27) #[] #[]) :=
      ((show Below (W.heap.size + 2) ((W.alloc (.cells #[.int .u64 xan, .int .u64 xam, .slice xasA xass.length xasc, .slice xacA xacs.length xacc, .slice xavA xavs.length xavc, .int .u64 xn, .int .u64 xm, .slice xsA xss.length xsc, .slice xcA xcs.length xcc, .slice xvA xvs.length xvc] 69)).alloc (.cells #[.func (.func 27) #[] #[]] 73)) ((((W.alloc (.cells #[.int .u64 xan, .int .u64 xam, .slice xasA xass.length xasc, .slice xacA xacs.length xacc, .slice xavA xavs.length xavc, .int .u64 xn, .int .u64 xm, .slice xsA xss.length xsc, .slice xcA xcs.length xcc, .slice xvA xvs.length xvc] 69)).alloc (.cells #[.func (.func 27) #[] #[]] 73)).alloc (.cells #[.func (.yield l) #[] #[]] 74)).alloc (.cells #[.bool false] 4)) from belAl1 (belAl1 (Below.refl _ _) (by simp)) (by simp)).cell (p := ⟨W.heap.size + 1, 0, none⟩) (by simp)).trans (by
        have := alloc_cells (w := (W.alloc (.cells #[.int .u64 xan, .int .u64 xam, .slice xasA xass.length xasc, .slice xacA xacs.length xacc, .slice xavA xavs.length xavc, .int .u64 xn, .int .u64 xm, .slice xsA xss.length xsc, .slice xcA xcs.length xcc, .slice xvA xvs.length xvc] 69))) (cs := #[.func (.func 27) #[] #[]]) (t := 73) 0 _ rfl
        rw [World.size_alloc] at this; exact this)
    have hb3 : ((((W.alloc (.cells #[.int .u64 xan, .int .u64 xam, .slice xasA xass.length xasc, .slice xacA xacs.length xacc, .slice xavA xavs.length xavc, .int .u64 xn, .int .u64 xm, .slice xsA xss.length xsc, .slice xcA xcs.length xcc, .slice xvA xvs.length xvc] 69)).alloc (.cells #[.func (.func 27) #[] #[]] 73)).alloc (.cells #[.func (.yield l) #[] #[]] 74)).alloc (.cells #[.bool false] 4)).cell? ⟨W.heap.size + 1 + 1, 0, none⟩ = some (.func (.yield l) #[] #[]) :=
      ((show Below (W.heap.size + 3) (((W.alloc (.cells #[.int .u64 xan, .int .u64 xam, .slice xasA xass.length xasc, .slice xacA xacs.length xacc, .slice xavA xavs.length xavc, .int .u64 xn, .int .u64 xm, .slice xsA xss.length xsc, .slice xcA xcs.length xcc, .slice xvA xvs.length xvc] 69)).alloc (.cells #[.func (.func 27) #[] #[]] 73)).alloc (.cells #[.func (.yield l) #[] #[]] 74)) ((((W.alloc (.cells #[.int .u64 xan, .int .u64 xam, .slice xasA xass.length xasc, .slice xacA xacs.length xacc, .slice xavA xavs.length xavc, .int .u64 xn, .int .u64 xm, .slice xsA xss.length xsc, .slice xcA xcs.length xcc, .slice xvA xvs.length xvc] 69)).alloc (.cells #[.func (.func 27) #[] #[]] 73)).alloc (.cells #[.func (.yield l) #[] #[]] 74)).alloc (.cells #[.bool false] 4)) from belAl1 (Below.refl _ _) (by simp)).cell (p := ⟨W.heap.size + 1 + 1, 0, none⟩) (by simp)).trans (by
        have := alloc_cells (w := ((W.alloc (.cells #[.int .u64 xan, .int .u64 xam, .slice xasA xass.length xasc, .slice xacA xacs.length xacc, .slice xavA xavs.length xavc, .int .u64 xn, .int .u64 xm, .slice xsA xss.length xsc, .slice xcA xcs.length xcc, .slice xvA xvs.length xvc] 69)).alloc (.cells #[.func (.func 27) #[] #[]] 73))) (cs := #[.func (.yield l) #[] #[]]) (t := 74) 0 _ rfl
        rw [World.size_alloc, World.size_alloc] at this; exact this)
    cases r with
    | false =>
      obtain ⟨hJx3, hk3⟩ := hr
      have bR3 := hk3.boxed (by omega) bR
      have hcl := bR3.cell
      have hcf := bR3.frozen
      gi_wp2_with fail
      refine ⟨_, results_cell1 rfl rfl _ _ (W.heap.size + 1 + 1 + 1) (.bool false) rfl (bR3.set (.bool false)).cell, ?_⟩
      refine .inr ⟨rfl, ⟨k0, by first | omega | (simp; omega) | simp, HJX.out _ _ _ hJx3 ((Below.refl _ _).setCell (by first | omega | (simp; omega) | simp) _)⟩, ?_⟩
      exact ((KF.of_below hbV).trans hk3).later ((Below.refl _ _).setCell (by first | omega | (simp; omega) | simp) _)
    | true =>
      obtain ⟨hJ3, hk3, hsafe⟩ := hr
      have bR3 := hk3.boxed (by omega) bR
      have c0 : W3.cell? ⟨W.heap.size, 0, none⟩ = some (.int .u64 xan) := hk3.cell (by omega) (hb1 0 _ rfl)
      have c1 : W3.cell? ⟨W.heap.size, 1, none⟩ = some (.int .u64 xam) := hk3.cell (by omega) (hb1 1 _ rfl)
      have c2 : W3.cell? ⟨W.heap.size, 2, none⟩ = some (.slice xasA xass.length xasc) := hk3.cell (by omega) (hb1 2 _ rfl)
      have c3 : W3.cell? ⟨W.heap.size, 3, none⟩ = some (.slice xacA xacs.length xacc) := hk3.cell (by omega) (hb1 3 _ rfl)
      have c4 : W3.cell? ⟨W.heap.size, 4, none⟩ = some (.slice xavA xavs.length xavc) := hk3.cell (by omega) (hb1 4 _ rfl)
      have c5 : W3.cell? ⟨W.heap.size, 5, none⟩ = some (.int .u64 xn) := hk3.cell (by omega) (hb1 5 _ rfl)
      have c6 : W3.cell? ⟨W.heap.size, 6, none⟩ = some (.int .u64 xm) := hk3.cell (by omega) (hb1 6 _ rfl)
      have c7 : W3.cell? ⟨W.heap.size, 7, none⟩ = some (.slice xsA xss.length xsc) := hk3.cell (by omega) (hb1 7 _ rfl)
      have c8 : W3.cell? ⟨W.heap.size, 8, none⟩ = some (.slice xcA xcs.length xcc) := hk3.cell (by omega) (hb1 8 _ rfl)
      have c9 : W3.cell? ⟨W.heap.size, 9, none⟩ = some (.slice xvA xvs.length xvc) := hk3.cell (by omega) (hb1 9 _ rfl)
      have ce : W3.cell? ⟨W.heap.size + 1, 0, none⟩ = some (.func (.func 27) #[] #[]) := hk3.cell (by omega) hb2
      have cy : W3.cell? ⟨W.heap.size + 1 + 1, 0, none⟩ = some (.func (.yield l) #[] #[]) := hk3.cell (by omega) hb3
      have hkW : KN D B W W3 := (KN.of_below hbV).trans hk3
      have hs3 := hk3.size
      simp only [World.size_alloc] at hs3
      clear hk3 bR hb1 hb2 hb3
      have HG := Lib.hid (couples_gives (Vl.mk xan xam xasA xasc xass xacA xacc xacs xavA xavc xavs, Vl.mk xn xm xsA xsc xss xcA xcc xcs xvA xvc xvs) D _ (MemK.kn hkW _ HM.out.1) hsafe (by omega))
      gi_wp2_with fail
      refine ⟨trivial, (callsIn_wide.2 HG.out).mono ?_⟩
      rintro e W4 ⟨bt, rfl, hb4, hseq⟩
      have ce4 := (hb4.cell (p := ⟨W.heap.size + 1, 0, none⟩) (by simp only; omega)).trans ce
      have cy4 := (hb4.cell (p := ⟨W.heap.size + 1 + 1, 0, none⟩) (by simp only; omega)).trans cy
      have bR4 : Boxed W4 (W.heap.size + 1 + 1 + 1) 4 (.bool false) := (hb4.block _ (by omega)).trans bR3
      have hkW4 : KN D B W W4 := hkW.trans (KN.of_below hb4)
      have hJ4 := HJ.out _ _ _ hJ3 (hb4.mono (Nat.le_trans hB hkW.size))
      clear c0 c1 c2 c3 c4 c5 c6 c7 c8 c9 ce cy bR3 hkW hJ3
      have hs4 := hkW4.size
      have hs34 := hb4.size
      have hBs : B ≤ W4.heap.size := Nat.le_trans hB hs4
      have HSQ := Lib.hid hseq
      have HKL : Hid (l0.map Nd.lab = kidsC (Vl.mk xan xam xasA xasc xass xacA xacc xacs xavA xavc xavs, Vl.mk xn xm xsA xsc xss xcA xcc xcs xvA xvc xvs)) := HM.out.2.1 hsafe
      clear hseq hsafe hb4
      gi_wp2_with fail
      refine range_own rfl (enters_of Tryz.func34 (by kernel_rfl) rfl) HSQ.out (fun _ => rfl)
        (fun k X => (J (k0 + 1 + (Nd.preL (l0.take k)).length) X ∧ KN D B W X) ∧ X.cell? ⟨W.heap.size + 1, 0, none⟩ = some (.func (.func 27) #[] #[]) ∧ X.cell? ⟨W.heap.size + 1 + 1, 0, none⟩ = some (.func (.yield l) #[] #[]) ∧ Boxed X (W.heap.size + 1 + 1 + 1) 4 (.bool false))
        (fun c _ X => c = .ret ∧ Boxed X (W.heap.size + 1 + 1 + 1) 4 (.bool false) ∧ (∃ k, k < k0 + (Nd.preL l0).length + 1 ∧ Jx k X) ∧ KF B W X)
        (fun k X Y ⟨⟨h1, h2⟩, h3, h4, h5⟩ hb => ⟨⟨HJ.out _ _ _ h1 (hb.mono hBs), h2.later (hb.mono hs4)⟩, (hb.cell (p := ⟨W.heap.size + 1, 0, none⟩) (by simp only; omega)).trans h3, (hb.cell (p := ⟨W.heap.size + 1 + 1, 0, none⟩) (by simp only; omega)).trans h4, (hb.block _ (by omega)).trans h5⟩)
        (fun c k X Y ⟨h1, h2, ⟨k', h3, h4⟩, h5⟩ hb => ⟨h1, (hb.block _ (by omega)).trans h2, ⟨k', h3, HJX.out _ _ _ h4 (hb.mono hBs)⟩, h5.later (hb.mono hs4)⟩)
        ⟨⟨by simpa [Nd.preL] using hJ4, hkW4⟩, ce4, cy4, bR4⟩
        (fun y a' X => ∃ bp, a' = { tmps := #[.agg #[.int .u64 xan, .int .u64 xam, .slice xasA xass.length xasc, .slice xacA xacs.length xacc, .slice xavA xavs.length xavc, .int .u64 xn, .int .u64 xm, .slice xsA xss.length xsc, .slice xcA xcs.length xcc, .slice xvA xvs.length xvc], .func (.func 27) #[] #[], .func (.yield l) #[] #[], .pointer (some ⟨W.heap.size, 0, none⟩), .pointer (some ⟨W.heap.size + 1, 0, none⟩), .pointer (some ⟨W.heap.size + 1 + 1, 0, none⟩), .pointer (some ⟨W.heap.size + 1 + 1 + 1, 0, none⟩), .pointer (some ⟨bp, 0, none⟩), .func (.yield l) #[] #[], .agg #[.int .u64 xan, .int .u64 xam, .slice xasA xass.length xasc, .slice xacA xacs.length xacc, .slice xavA xavs.length xavc, .int .u64 xn, .int .u64 xm, .slice xsA xss.length xsc, .slice xcA xcs.length xcc, .slice xvA xvs.length xvc], .bool true, .bool false, .func (.func 27) #[] #[], .agg #[.int .u64 xan, .int .u64 xam, .slice xasA xass.length xasc, .slice xacA xacs.length xacc, .slice xavA xavs.length xavc, .int .u64 xn, .int .u64 xm, .slice xsA xss.length xsc, .slice xcA xcs.length xcc, .slice xvA xvs.length xvc],
            .func (.func 34) #[] #[.pointer (some ⟨bt, 0, none⟩)], valK y, undef, undef, undef, undef, undef], defers := [] } ∧
          ∀ i v, (cellsK y)[i]? = some v → X.cell? ⟨bp, i, none⟩ = some v)
        ?ax ?assign ?body ?done ?stop
      case ax =>
        rintro y a' _ X Y row ⟨bp, h1, h2⟩ hg hr
        exact ⟨bp, h1, fun i v h => cell_kept (h2 i v h) hg (fun r e => (hr r e).2)⟩
      case assign =>
        intro l2 k y X K _ _ hK
        obtain ⟨⟨yan, yam, yasA, yasc, yass, yacA, yacc, yacs, yavA, yavc, yavs⟩, yn, ym, ysA, ysc, yss, ycA, ycc, ycs, yvA, yvc, yvs⟩ := y
        unfold encK
        simp only [valK, cellsK, Vl.n, Vl.m, Vl.s1, Vl.c1, Vl.v1]
        gi_wp2
        exact hK _ _ (allocB _ _) ⟨X.heap.size, rfl, fun i v h => alloc_cells i v h⟩
      case body =>
        rintro l2 k y a' X hXs hyk ⟨⟨hJr, hkr⟩, h3, h4, h5⟩ ⟨bp, rfl, hc⟩
        obtain ⟨t, htk, htl⟩ : ∃ t, l0[k]? = some t ∧ t.lab = y := by
          rw [← HKL.out, List.getElem?_map] at hyk
          exact Option.map_eq_some_iff.1 hyk
        have HT := Lib.hid (And.intro htk htl)
        have hat2 : At zs (k0 + 1 + (Nd.preL (l0.take k)).length) t.pre := by
          have h1 : At zs (k0 + 1) (Nd.preL l0) := by
            have h0 : At zs k0 ([(Vl.mk xan xam xasA xasc xass xacA xacc xacs xavA xavc xavs, Vl.mk xn xm xsA xsc xss xcA xcc xcs xvA xvc xvs)] ++ Nd.preL l0) := HAT.out
            exact h0.right
          rw [preL_split htk] at h1
          exact h1.right.left
        have HR := Lib.hid (IH.out t (List.mem_of_getElem? htk) _ X ((HM.out.2.2 t (List.mem_of_getElem? htk)).mono (MemK.kn hkr)) (Nat.le_trans hBs hXs) hJr hat2)
        clear htk htl hat2 hyk
        obtain ⟨⟨yan, yam, yasA, yasc, yass, yacA, yacc, yacs, yavA, yavc, yavs⟩, yn, ym, ysA, ysc, yss, ycA, ycc, ycs, yvA, yvc, yvs⟩ := y
        have htl := HT.out.2
        simp only [htl] at HR
        simp only [valK, cellsK, Vl.n, Vl.m, Vl.s1, Vl.c1, Vl.v1] at HR
        have e0 := hc 0 _ rfl
        have e1 := hc 1 _ rfl
        have e2 := hc 2 _ rfl
        have e3 := hc 3 _ rfl
        have e4 := hc 4 _ rfl
        have e5 := hc 5 _ rfl
        have e6 := hc 6 _ rfl
        have e7 := hc 7 _ rfl
        have e8 := hc 8 _ rfl
        have e9 := hc 9 _ rfl
        simp only [valK, cellsK, Vl.n, Vl.m, Vl.s1, Vl.c1, Vl.v1] at e0 e1 e2 e3 e4 e5 e6 e7 e8 e9 ⊢
        clear hc htl
        gi_wp2_with fail
        refine ⟨trivial, rfl, (CallsIn.inRound l2 (callsIn_wide.2 HR.out)).mono ?_⟩
        clear HR e0 e1 e2 e3 e4 e5 e6 e7 e8 e9
        rintro e X5 (⟨rfl, hJ5, hk5⟩ | ⟨rfl, ⟨k', hk', hJx5⟩, hkf5⟩)
        · have hJ6 : J (k0 + 1 + (Nd.preL (l0.take (k + 1))).length) X5 := by
            rw [preL_snoc HT.out.1, List.length_append, ← Nat.add_assoc]
            exact hJ5
          have g3 := hk5.cell (by omega) h3
          have g4 := hk5.cell (by omega) h4
          have g5 := hk5.boxed (by omega) h5
          gi_wp2_with fail
          exact ⟨hk5.mono hBs, ⟨⟨hJ6, hkr.trans hk5⟩, g3, g4, g5⟩, trivial⟩
        · have g5 := hkf5.boxed (by omega) h5
          have hcl := g5.cell
          have hcf := g5.frozen
          have hk9 : k' < k0 + (Nd.preL l0).length + 1 := by
            have := congrArg List.length (preL_split HT.out.1)
            simp only [List.length_append] at this
            omega
          gi_wp2_with fail
          refine ⟨(hkf5.mono hBs).trans (KF.set (by omega) _), rfl, g5.set _, ⟨k', hk9, HJX.out _ _ _ hJx5 ((Below.refl _ _).setCell (by first | omega | (simp; omega) | simp) _)⟩, ?_⟩
          exact (hkr.kf.trans hkf5).later ((Below.refl _ _).setCell (by first | omega | (simp; omega) | simp) _)
      case done =>
        rintro E X hE ⟨⟨hJr, hkr⟩, -, -, h5⟩ hD2
        have hlen : (kidsC (Vl.mk xan xam xasA xasc xass xacA xacc xacs xavA xavc xavs, Vl.mk xn xm xsA xsc xss xcA xcc xcs xvA xvc xvs)).length = l0.length := by rw [← HKL.out, List.length_map]
        rw [hlen, List.take_length] at hJr
        have hcl := h5.cell
        have hcf := h5.frozen
        clear hlen
        gi_wp2
        have hne : W.heap.size + 1 + 1 + 1 ≠ E := by omega
        have hK2 : (X.setCell ⟨W.heap.size + 1 + 1 + 1, 0, none⟩ (.bool true)).heap[E]? = some (.deferred (some [])) := (Below.heap_setCell _ _ _ _ (Ne.symm hne)).trans hD2
        refine ⟨by simp, .inl ⟨_, _, rfl, run_takeDeferred hK2, ?_⟩⟩
        refine ⟨_, results_cell1 rfl rfl _ _ (W.heap.size + 1 + 1 + 1) (.bool true) rfl ((World.cell?_of_block (World.putObj_heap_other hne)).trans (h5.set (.bool true)).cell), ?_⟩
        have hbE : Below W.heap.size X ((X.setCell ⟨W.heap.size + 1 + 1 + 1, 0, none⟩ (.bool true)).putObj E (.deferred none)) := ((Below.refl _ _).setCell (by first | omega | (simp; omega) | simp) _).trans ⟨rfl, rfl, rfl, by simp, fun q hq => World.putObj_heap_other (by omega)⟩
        refine .inl ⟨rfl, ?_, hkr.later hbE⟩
        have := HJ.out _ _ _ hJr (hbE.mono hB)
        simpa [Nat.add_assoc, Nat.add_comm, Nat.add_left_comm] using this
      case stop =>
        rintro E c k X hE hk ⟨rfl, h5, ⟨k', hk', hJx⟩, hkf⟩ hD2
        have hcl := h5.cell
        gi_wp2
        have hne : W.heap.size + 1 + 1 + 1 ≠ E := by omega
        refine ⟨by simp, .inl ⟨_, _, rfl, run_takeDeferred hD2, ?_⟩⟩
        refine ⟨_, results_cell1 rfl rfl _ _ (W.heap.size + 1 + 1 + 1) (.bool false) rfl ((World.cell?_of_block (World.putObj_heap_other hne)).trans hcl), ?_⟩
        have hbE : Below W.heap.size X (X.putObj E (.deferred none)) := ⟨rfl, rfl, rfl, by simp, fun q hq => World.putObj_heap_other (by omega)⟩
        exact .inr ⟨rfl, ⟨k', by first | omega | (simp; omega) | simp, HJX.out _ _ _ hJx (hbE.mono hB)⟩, hkf.later hbE⟩

set_option maxRecDepth 100000 in
set_option maxHeartbeats 1000000 in
theorem nested_seq_K (T : Nd (Vl × Vl)) (D Bt Bi : Nat) (w : World) (hg : Good (MemK D w) SafeK kidsC T) (hD : D < w.heap.size) (hBt : ∀ i v, (cellsK T.lab)[i]? = some v → w.cell? ⟨Bt, i, none⟩ = some v) (hBi : w.cell? ⟨Bi, 0, none⟩ = some (.func (.func 27) #[] #[])) :
    SeqO Tryz.prog 32 #[.pointer (some ⟨Bt, 0, none⟩), .pointer (some ⟨Bi, 0, none⟩)] encK D SafeK T.pre w := by
  intro l J Jx W hW hJ hJx hY h0
  have HR := Lib.hid (goInto_K l D W.heap.size T.pre J Jx hJ hJx (Nat.lt_of_lt_of_le hD hW.size) hY T 0 W (hg.mono (MemK.kn (B := 0) (KN.of_below hW))) (Nat.le_refl _) h0 (At.all _))
  have hi := (hW.cell (p := ⟨Bi, 0, none⟩) (World.block_lt_of_cell? w _ hBi)).trans hBi
  have hc : ∀ i v, (cellsK T.lab)[i]? = some v → W.cell? ⟨Bt, i, none⟩ = some v := fun i v h => (hW.cell (p := ⟨Bt, i, none⟩) (World.block_lt_of_cell? w _ (hBt i v h))).trans (hBt i v h)
  clear hY hJ hJx hBt hBi hg
  obtain ⟨x, l0⟩ := T
  rw [Nd.lab] at hc
  simp only [Nd.lab] at HR
  obtain ⟨⟨yan, yam, yasA, yasc, yass, yacA, yacc, yacs, yavA, yavc, yavs⟩, yn, ym, ysA, ysc, yss, ycA, ycc, ycs, yvA, yvc, yvs⟩ := x
  have e0 := hc 0 _ rfl
  have e1 := hc 1 _ rfl
  have e2 := hc 2 _ rfl
  have e3 := hc 3 _ rfl
  have e4 := hc 4 _ rfl
  have e5 := hc 5 _ rfl
  have e6 := hc 6 _ rfl
  have e7 := hc 7 _ rfl
  have e8 := hc 8 _ rfl
  have e9 := hc 9 _ rfl
  simp only [valK, cellsK, Vl.n, Vl.m, Vl.s1, Vl.c1, Vl.v1] at e0 e1 e2 e3 e4 e5 e6 e7 e8 e9 HR
  clear hc
  refine (callsIn_wide (n := 6)).1 (callsIn_of_wp Tryz.func32 rfl trivial ?_ rfl)
  simp only [Tryz.ntmps32, List.size_toArray, List.length_cons, List.length_nil, Nat.reduceAdd, Nat.reduceSub, Array.replicate_succ, Array.replicate_zero, List.push_toArray, List.append_toArray, List.nil_append, List.cons_append]
  gi_wp2_with fail
  refine ⟨trivial, (callsIn_wide.2 HR.out).mono ?_⟩
  rintro e W5 (⟨rfl, hJ5, hk5⟩ | ⟨rfl, ⟨k, hk, hJx5⟩, -⟩)
  · gi_wp2_with fail
    go_end0
    rw [Nat.zero_add] at hJ5
    exact ⟨⟨_, rfl⟩, .inl hJ5⟩
  · gi_wp2_with fail
    go_end0
    exact ⟨⟨_, rfl⟩, .inr ⟨k, by omega, hJx5⟩⟩

/-- What value.nested answers: an iterator over all that is nested, for whoever writes none but a new block. -/
def NestsK (T : Nd (Vl × Vl)) (w : World) (e : Ending) (w' : World) : Prop :=
  ∃ b1 b2, e = .returned (.func (.func 32) #[] #[.pointer (some ⟨b1, 0, none⟩), .pointer (some ⟨b2, 0, none⟩)]) ∧ Below w.heap.size w w' ∧
    ∀ D w2, Below w'.heap.size w' w2 → w.heap.size ≤ D → D < w2.heap.size → SeqO Tryz.prog 32 #[.pointer (some ⟨b1, 0, none⟩), .pointer (some ⟨b2, 0, none⟩)] encK D SafeK T.pre w2

set_option maxHeartbeats 400000 in
theorem nested_K (T : Nd (Vl × Vl)) (w : World) (hg : ∀ D, w.heap.size ≤ D → Good (MemK D w) SafeK kidsC T) : Calls Tryz.prog 26 #[valK T.lab, .func (.func 27) #[] #[]] w (NestsK T w) := by
  have hbV : Below w.heap.size w ((w.alloc (.cells (cellsK T.lab) 69)).alloc (.cells #[.func (.func 27) #[] #[]] 73)) := belAl (belAl (Below.refl _ _))
  have HS : Hid (∀ D w2, Below ((w.alloc (.cells (cellsK T.lab) 69)).alloc (.cells #[.func (.func 27) #[] #[]] 73)).heap.size ((w.alloc (.cells (cellsK T.lab) 69)).alloc (.cells #[.func (.func 27) #[] #[]] 73)) w2 → w.heap.size ≤ D → D < w2.heap.size → SeqO Tryz.prog 32 #[.pointer (some ⟨w.heap.size, 0, none⟩), .pointer (some ⟨w.heap.size + 1, 0, none⟩)] encK D SafeK T.pre w2) := by
    intro D w2 hb2 hD hD2
    refine nested_seq_K T D _ _ _ ((hg D hD).mono (MemK.kn (B := 0) (KN.of_below (hbV.trans (hb2.mono hbV.size))))) hD2 (fun i v h => ?_) ?_
    · exact (hb2.cell (p := ⟨w.heap.size, i, none⟩) (by simp; omega)).trans (((belAl1 (Below.refl (w.heap.size + 1) (w.alloc (.cells (cellsK T.lab) 69))) (by simp)).cell (p := ⟨w.heap.size, i, none⟩) (by simp)).trans (alloc_cells i v h))
    · have := alloc_cells (w := w.alloc (.cells (cellsK T.lab) 69)) (cs := #[.func (.func 27) #[] #[]]) (t := 73) 0 _ rfl
      rw [World.size_alloc] at this
      exact (hb2.cell (p := ⟨w.heap.size + 1, 0, none⟩) (by simp)).trans this
  have HB := Lib.hid hbV
  clear hg hbV
  obtain ⟨x, l0⟩ := T
  simp only [Nd.lab] at HS HB ⊢
  obtain ⟨⟨yan, yam, yasA, yasc, yass, yacA, yacc, yacs, yavA, yavc, yavs⟩, yn, ym, ysA, ysc, yss, ycA, ycc, ycs, yvA, yvc, yvs⟩ := x
  simp only [valK, cellsK, Vl.n, Vl.m, Vl.s1, Vl.c1, Vl.v1] at HS HB ⊢
  go_enter Tryz.func26, Tryz.ntmps26
  go_wp2_with fail
  go_ret
  exact ⟨_, _, rfl, HB.out, HS.out⟩
end Go.Proofs.YtdbohojncbeajaaGreat.V4

namespace Go.Proofs.YtdbohojncbeajaaGreat.V4
open Go.RowKit Go.Shelf
open S2 (Sc LiesP allocB results_cell1)
open C3 (belAl)

attribute [local go_sem] Oper.semAt_some

end Go.Proofs.YtdbohojncbeajaaGreat.V4

namespace Go.Proofs.YtdbohojncbeajaaGreat.V4
open Go.RowKit Go.Shelf
open S2 (Sc LiesP allocB results_cell1)
open C3 (belAl)

attribute [local go_sem] Oper.semAt_some

def InT (w : World) (x : Sc × Vl) : Prop := x.1.In w.heap.size w ∧ x.2.In w
def InK (w : World) (x : Vl × Vl) : Prop := x.1.In w ∧ x.2.In w
def InC (w : World) (x : Ck) : Prop := x.Inp (fun b => b < w.heap.size) w
theorem InT.later {w w' : World} {x : Sc × Vl} (h : InT w x) (hb : Below w.heap.size w w') : InT w' x := ⟨h.1.later hb, h.2.later hb⟩
theorem InK.later {w w' : World} {x : Vl × Vl} (h : InK w x) (hb : Below w.heap.size w w') : InK w' x := ⟨h.1.later hb, h.2.later hb⟩
theorem InC.later {w w' : World} {x : Ck} (h : InC w x) (hb : Below w.heap.size w w') : InC w' x := (Ck.Inp.keep h fun b hlt => hb.block b hlt).mono fun _ hlt => Nat.lt_of_lt_of_le hlt hb.size

theorem all_take_succ {α : Type} {p : α → Bool} {zs : List α} {k : Nat} {x : α} (hx : zs[k]? = some x) : (zs.take (k + 1)).all p = ((zs.take k).all p && p x) := by
  obtain ⟨hk, he⟩ := List.getElem?_eq_some_iff.1 hx
  rw [List.take_succ_eq_append_getElem hk, he, List.all_append]
  simp
theorem all_false {α : Type} {p : α → Bool} {zs : List α} {k : Nat} {x : α} (hx : zs[k]? = some x) (hp : p x = false) : zs.all p = false := by
  refine Bool.eq_false_iff.2 fun h => ?_
  have := List.all_eq_true.1 h x (List.mem_of_getElem? hx)
  rw [hp] at this
  cases this

set_option maxRecDepth 100000 in
set_option maxHeartbeats 1000000 in
theorem every_right (p : Sc × Vl → Bool) (zs : List (Sc × Vl)) (hf : ∀ x ∈ zs, ∀ W, InT W x → Calls Tryz.prog 42 #[valT x] W (RetV W (.bool (p x)))) (ok : Sc × Vl → Prop) (hok : ∀ x ∈ zs, p x = true → ok x) (g : Nat) (lb : Array Value) (eg : Enters Tryz.prog g) (w : World)
    (hseq : ∀ D w2, Below w.heap.size w w2 → w.heap.size ≤ D → D < w2.heap.size → SeqO Tryz.prog g lb encT D ok zs w2) (hmem : ∀ x ∈ zs, InT w x) :
    Calls Tryz.prog 39 #[.func (.func g) #[] lb, .func (.func 42) #[] #[]] w (RetV w (.bool (zs.all p))) := by
  have HF := Lib.hid hf
  have HOK := Lib.hid hok
  have HE := Lib.hid eg
  have HS := Lib.hid hseq
  have HM := Lib.hid hmem
  clear hf hok eg hseq hmem
  refine (callsIn_wide (n := 6)).1 (callsIn_of_wp_marks Tryz.func39 rfl trivial ?_ rfl)
  simp only [Tryz.ntmps39, List.size_toArray, List.length_cons, List.length_nil, Nat.reduceAdd, Nat.reduceSub, Array.replicate_succ, Array.replicate_zero, List.push_toArray, List.append_toArray, List.nil_append, List.cons_append]
  gi_wp2_with fail
  obtain ⟨V, hV⟩ : ∃ V, (w.alloc (.cells #[.func (.func 42) #[] #[]] 99)).alloc (.cells #[.bool false] 4) = V := ⟨_, rfl⟩
  have hB0 : Below w.heap.size w V := by rw [← hV]; exact belAl (belAl (Below.refl _ _))
  have hsz : V.heap.size = w.heap.size + 2 := by rw [← hV]; simp
  have bR : Boxed V (w.heap.size + 1) 4 (.bool false) := by
    have := Boxed.new (w.alloc (.cells #[.func (.func 42) #[] #[]] 99)) 4 (.bool false)
    rw [World.size_alloc, hV] at this
    exact this
  have cI : V.cell? ⟨w.heap.size, 0, none⟩ = some (.func (.func 42) #[] #[]) := by
    rw [← hV]
    exact ((belAl1 (Below.refl (w.heap.size + 1) (w.alloc (.cells #[.func (.func 42) #[] #[]] 99))) (by simp)).cell (p := ⟨w.heap.size, 0, none⟩) (by simp)).trans (alloc_cells 0 _ rfl)
  rw [hV]
  clear hV
  refine range_own rfl HE.out (HS.out (w.heap.size + 1) V hB0 (by omega) (by omega)) (fun _ => rfl)
    (fun k X => (Boxed X (w.heap.size + 1) 4 (.bool false) ∧ Below w.heap.size w X) ∧ X.cell? ⟨w.heap.size, 0, none⟩ = some (.func (.func 42) #[] #[]) ∧ (zs.take k).all p = true)
    (fun c _ X => (Boxed X (w.heap.size + 1) 4 (.bool false) ∧ Below w.heap.size w X) ∧ c = .ret ∧ zs.all p = false)
    (fun k X Y ⟨⟨h1, h2⟩, h3, h4⟩ hb => ⟨⟨(hb.block _ (by omega)).trans h1, h2.trans (hb.mono (by omega))⟩, (hb.cell (p := ⟨w.heap.size, 0, none⟩) (by simp only; omega)).trans h3, h4⟩)
    (fun c k X Y ⟨⟨h1, h2⟩, h3⟩ hb => ⟨⟨(hb.block _ (by omega)).trans h1, h2.trans (hb.mono (by omega))⟩, h3⟩)
    ⟨⟨bR, hB0⟩, cI, rfl⟩
    (fun y a' X => ∃ bp, a' = { tmps := #[.func (.func g) #[] lb, .func (.func 42) #[] #[], undef, .pointer (some ⟨w.heap.size, 0, none⟩), .pointer (some ⟨w.heap.size + 1, 0, none⟩), .pointer (some ⟨bp, 0, none⟩), .func (.func g) #[] lb, valT y, undef, undef, undef, undef], defers := [] } ∧ ∀ i v, (cellsT y)[i]? = some v → X.cell? ⟨bp, i, none⟩ = some v)
    ?ax ?assign ?body ?done ?stop
  case ax =>
    rintro y a' _ X Y row ⟨bp, h1, h2⟩ hg hr
    exact ⟨bp, h1, fun i v h => cell_kept (h2 i v h) hg (fun r e => (hr r e).2)⟩
  case assign =>
    intro l2 k y X K _ _ hK
    obtain ⟨⟨yk, yA, yc, yl⟩, yn, ym, ysA, ysc, yss, ycA, ycc, ycs, yvA, yvc, yvs⟩ := y
    unfold encT
    simp only [valT, cellsT, Sc.k, Sc.v1, Vl.n, Vl.m, Vl.s1, Vl.c1, Vl.v1]
    gi_wp2
    exact hK _ _ (allocB _ _) ⟨X.heap.size, rfl, fun i v h => alloc_cells i v h⟩
  case body =>
    rintro l2 k y a' X hXs hx ⟨⟨h1, h2⟩, h3, h4⟩ ⟨bp, rfl, hc⟩
    have HX := Lib.hid hx
    have hb := h2
    have hcl := h1.cell
    have hcf := h1.frozen
    have HR := Lib.hid (HF.out y (List.mem_of_getElem? hx) X ((HM.out y (List.mem_of_getElem? hx)).later h2))
    obtain ⟨q, hq⟩ : ∃ q, p y = q := ⟨_, rfl⟩
    have HQ := Lib.hid hq
    have HP := Lib.hid h4
    rw [hq] at HR
    clear hx hq h4
    obtain ⟨⟨yk, yA, yc, yl⟩, yn, ym, ysA, ysc, yss, ycA, ycc, ycs, yvA, yvc, yvs⟩ := y
    have e0 := hc 0 _ rfl
    have e1 := hc 1 _ rfl
    have e2 := hc 2 _ rfl
    have e3 := hc 3 _ rfl
    have e4 := hc 4 _ rfl
    have e5 := hc 5 _ rfl
    have e6 := hc 6 _ rfl
    simp only [valT, cellsT, Sc.k, Sc.v1, Vl.n, Vl.m, Vl.s1, Vl.c1, Vl.v1] at e0 e1 e2 e3 e4 e5 e6 HR ⊢
    clear hc
    gi_wp2_with fail
    refine ⟨trivial, rfl, (CallsIn.inRound l2 (callsIn_wide.2 HR.out)).mono ?_⟩
    clear HR e0 e1 e2 e3 e4 e5 e6
    rintro e X5 ⟨rfl, hb5⟩
    have g1 : Boxed X5 (w.heap.size + 1) 4 (.bool false) := (hb5.block _ (by omega)).trans h1
    have g3 := (hb5.cell (p := ⟨w.heap.size, 0, none⟩) (by simp only; omega)).trans h3
    have hB5 : Below w.heap.size w X5 := h2.trans (hb5.mono h2.size)
    cases q with
    | true =>
      gi_wp2_with fail
      exact ⟨KN.of_below hb5, ⟨⟨g1, hB5⟩, g3, by rw [all_take_succ HX.out, HP.out, HQ.out]; rfl⟩, HOK.out _ (List.mem_of_getElem? HX.out) HQ.out⟩
    | false =>
      have hcl5 := g1.cell
      have hcf5 := g1.frozen
      gi_wp2_with fail
      exact ⟨(KF.of_below hb5).trans (KF.set (by omega) _), ⟨g1.set _, hB5.setCell (by first | omega | (simp; omega) | simp) _⟩, rfl, all_false HX.out HQ.out⟩
  case done =>
    rintro E X hE ⟨⟨hR, hB⟩, -, hp⟩ hK
    have hcl := hR.cell
    have hcf := hR.frozen
    rw [List.take_length] at hp
    have HP := Lib.hid hp
    clear hp
    gi_wp2
    have hne : w.heap.size + 1 ≠ E := by omega
    have hK2 : (X.setCell ⟨w.heap.size + 1, 0, none⟩ (.bool true)).heap[E]? = some (.deferred (some [])) := (Below.heap_setCell _ _ _ _ (Ne.symm hne)).trans hK
    refine ⟨by simp, .inl ⟨_, _, rfl, run_takeDeferred hK2, ?_⟩⟩
    refine ⟨_, results_cell1 rfl rfl _ _ (w.heap.size + 1) (.bool true) rfl ((World.cell?_of_block (World.putObj_heap_other hne)).trans (hR.set (.bool true)).cell), ?_⟩
    rw [HP.out]
    exact ⟨rfl, (hB.setCell (by first | omega | (simp; omega) | simp) _).trans ⟨rfl, rfl, rfl, by simp, fun q hq => World.putObj_heap_other (by omega)⟩⟩
  case stop =>
    rintro E c k X hE hk ⟨⟨hR, hB⟩, rfl, hp⟩ hK
    have hcl := hR.cell
    have HP := Lib.hid hp
    clear hp
    gi_wp2
    have hne : w.heap.size + 1 ≠ E := by omega
    refine ⟨by simp, .inl ⟨_, _, rfl, run_takeDeferred hK, ?_⟩⟩
    refine ⟨_, results_cell1 rfl rfl _ _ (w.heap.size + 1) (.bool false) rfl ((World.cell?_of_block (World.putObj_heap_other hne)).trans hcl), ?_⟩
    rw [HP.out]
    exact ⟨rfl, hB.trans ⟨rfl, rfl, rfl, by simp, fun q hq => World.putObj_heap_other (by omega)⟩⟩

set_option maxRecDepth 100000 in
set_option maxHeartbeats 1000000 in
theorem every_hollow (p : Sc × Vl → Bool) (zs : List (Sc × Vl)) (hf : ∀ x ∈ zs, ∀ W, InT W x → Calls Tryz.prog 124 #[valT x] W (RetV W (.bool (p x)))) (ok : Sc × Vl → Prop) (hok : ∀ x ∈ zs, p x = true → ok x) (g : Nat) (lb : Array Value) (eg : Enters Tryz.prog g) (w : World)
    (hseq : ∀ D w2, Below w.heap.size w w2 → w.heap.size ≤ D → D < w2.heap.size → SeqO Tryz.prog g lb encT D ok zs w2) (hmem : ∀ x ∈ zs, InT w x) :
    Calls Tryz.prog 39 #[.func (.func g) #[] lb, .func (.func 124) #[] #[]] w (RetV w (.bool (zs.all p))) := by
  have HF := Lib.hid hf
  have HOK := Lib.hid hok
  have HE := Lib.hid eg
  have HS := Lib.hid hseq
  have HM := Lib.hid hmem
  clear hf hok eg hseq hmem
  refine (callsIn_wide (n := 6)).1 (callsIn_of_wp_marks Tryz.func39 rfl trivial ?_ rfl)
  simp only [Tryz.ntmps39, List.size_toArray, List.length_cons, List.length_nil, Nat.reduceAdd, Nat.reduceSub, Array.replicate_succ, Array.replicate_zero, List.push_toArray, List.append_toArray, List.nil_append, List.cons_append]
  gi_wp2_with fail
  obtain ⟨V, hV⟩ : ∃ V, (w.alloc (.cells #[.func (.func 124) #[] #[]] 99)).alloc (.cells #[.bool false] 4) = V := ⟨_, rfl⟩
  have hB0 : Below w.heap.size w V := by rw [← hV]; exact belAl (belAl (Below.refl _ _))
  have hsz : V.heap.size = w.heap.size + 2 := by rw [← hV]; simp
  have bR : Boxed V (w.heap.size + 1) 4 (.bool false) := by
    have := Boxed.new (w.alloc (.cells #[.func (.func 124) #[] #[]] 99)) 4 (.bool false)
    rw [World.size_alloc, hV] at this
    exact this
  have cI : V.cell? ⟨w.heap.size, 0, none⟩ = some (.func (.func 124) #[] #[]) := by
    rw [← hV]
    exact ((belAl1 (Below.refl (w.heap.size + 1) (w.alloc (.cells #[.func (.func 124) #[] #[]] 99))) (by simp)).cell (p := ⟨w.heap.size, 0, none⟩) (by simp)).trans (alloc_cells 0 _ rfl)
  rw [hV]
  clear hV
  refine range_own rfl HE.out (HS.out (w.heap.size + 1) V hB0 (by omega) (by omega)) (fun _ => rfl)
    (fun k X => (Boxed X (w.heap.size + 1) 4 (.bool false) ∧ Below w.heap.size w X) ∧ X.cell? ⟨w.heap.size, 0, none⟩ = some (.func (.func 124) #[] #[]) ∧ (zs.take k).all p = true)
    (fun c _ X => (Boxed X (w.heap.size + 1) 4 (.bool false) ∧ Below w.heap.size w X) ∧ c = .ret ∧ zs.all p = false)
    (fun k X Y ⟨⟨h1, h2⟩, h3, h4⟩ hb => ⟨⟨(hb.block _ (by omega)).trans h1, h2.trans (hb.mono (by omega))⟩, (hb.cell (p := ⟨w.heap.size, 0, none⟩) (by simp only; omega)).trans h3, h4⟩)
    (fun c k X Y ⟨⟨h1, h2⟩, h3⟩ hb => ⟨⟨(hb.block _ (by omega)).trans h1, h2.trans (hb.mono (by omega))⟩, h3⟩)
    ⟨⟨bR, hB0⟩, cI, rfl⟩
    (fun y a' X => ∃ bp, a' = { tmps := #[.func (.func g) #[] lb, .func (.func 124) #[] #[], undef, .pointer (some ⟨w.heap.size, 0, none⟩), .pointer (some ⟨w.heap.size + 1, 0, none⟩), .pointer (some ⟨bp, 0, none⟩), .func (.func g) #[] lb, valT y, undef, undef, undef, undef], defers := [] } ∧ ∀ i v, (cellsT y)[i]? = some v → X.cell? ⟨bp, i, none⟩ = some v)
    ?ax ?assign ?body ?done ?stop
  case ax =>
    rintro y a' _ X Y row ⟨bp, h1, h2⟩ hg hr
    exact ⟨bp, h1, fun i v h => cell_kept (h2 i v h) hg (fun r e => (hr r e).2)⟩
  case assign =>
    intro l2 k y X K _ _ hK
    obtain ⟨⟨yk, yA, yc, yl⟩, yn, ym, ysA, ysc, yss, ycA, ycc, ycs, yvA, yvc, yvs⟩ := y
    unfold encT
    simp only [valT, cellsT, Sc.k, Sc.v1, Vl.n, Vl.m, Vl.s1, Vl.c1, Vl.v1]
    gi_wp2
    exact hK _ _ (allocB _ _) ⟨X.heap.size, rfl, fun i v h => alloc_cells i v h⟩
  case body =>
    rintro l2 k y a' X hXs hx ⟨⟨h1, h2⟩, h3, h4⟩ ⟨bp, rfl, hc⟩
    have HX := Lib.hid hx
    have hb := h2
    have hcl := h1.cell
    have hcf := h1.frozen
    have HR := Lib.hid (HF.out y (List.mem_of_getElem? hx) X ((HM.out y (List.mem_of_getElem? hx)).later h2))
    obtain ⟨q, hq⟩ : ∃ q, p y = q := ⟨_, rfl⟩
    have HQ := Lib.hid hq
    have HP := Lib.hid h4
    rw [hq] at HR
    clear hx hq h4
    obtain ⟨⟨yk, yA, yc, yl⟩, yn, ym, ysA, ysc, yss, ycA, ycc, ycs, yvA, yvc, yvs⟩ := y
    have e0 := hc 0 _ rfl
    have e1 := hc 1 _ rfl
    have e2 := hc 2 _ rfl
    have e3 := hc 3 _ rfl
    have e4 := hc 4 _ rfl
    have e5 := hc 5 _ rfl
    have e6 := hc 6 _ rfl
    simp only [valT, cellsT, Sc.k, Sc.v1, Vl.n, Vl.m, Vl.s1, Vl.c1, Vl.v1] at e0 e1 e2 e3 e4 e5 e6 HR ⊢
    clear hc
    gi_wp2_with fail
    refine ⟨trivial, rfl, (CallsIn.inRound l2 (callsIn_wide.2 HR.out)).mono ?_⟩
    clear HR e0 e1 e2 e3 e4 e5 e6
    rintro e X5 ⟨rfl, hb5⟩
    have g1 : Boxed X5 (w.heap.size + 1) 4 (.bool false) := (hb5.block _ (by omega)).trans h1
    have g3 := (hb5.cell (p := ⟨w.heap.size, 0, none⟩) (by simp only; omega)).trans h3
    have hB5 : Below w.heap.size w X5 := h2.trans (hb5.mono h2.size)
    cases q with
    | true =>
      gi_wp2_with fail
      exact ⟨KN.of_below hb5, ⟨⟨g1, hB5⟩, g3, by rw [all_take_succ HX.out, HP.out, HQ.out]; rfl⟩, HOK.out _ (List.mem_of_getElem? HX.out) HQ.out⟩
    | false =>
      have hcl5 := g1.cell
      have hcf5 := g1.frozen
      gi_wp2_with fail
      exact ⟨(KF.of_below hb5).trans (KF.set (by omega) _), ⟨g1.set _, hB5.setCell (by first | omega | (simp; omega) | simp) _⟩, rfl, all_false HX.out HQ.out⟩
  case done =>
    rintro E X hE ⟨⟨hR, hB⟩, -, hp⟩ hK
    have hcl := hR.cell
    have hcf := hR.frozen
    rw [List.take_length] at hp
    have HP := Lib.hid hp
    clear hp
    gi_wp2
    have hne : w.heap.size + 1 ≠ E := by omega
    have hK2 : (X.setCell ⟨w.heap.size + 1, 0, none⟩ (.bool true)).heap[E]? = some (.deferred (some [])) := (Below.heap_setCell _ _ _ _ (Ne.symm hne)).trans hK
    refine ⟨by simp, .inl ⟨_, _, rfl, run_takeDeferred hK2, ?_⟩⟩
    refine ⟨_, results_cell1 rfl rfl _ _ (w.heap.size + 1) (.bool true) rfl ((World.cell?_of_block (World.putObj_heap_other hne)).trans (hR.set (.bool true)).cell), ?_⟩
    rw [HP.out]
    exact ⟨rfl, (hB.setCell (by first | omega | (simp; omega) | simp) _).trans ⟨rfl, rfl, rfl, by simp, fun q hq => World.putObj_heap_other (by omega)⟩⟩
  case stop =>
    rintro E c k X hE hk ⟨⟨hR, hB⟩, rfl, hp⟩ hK
    have hcl := hR.cell
    have HP := Lib.hid hp
    clear hp
    gi_wp2
    have hne : w.heap.size + 1 ≠ E := by omega
    refine ⟨by simp, .inl ⟨_, _, rfl, run_takeDeferred hK, ?_⟩⟩
    refine ⟨_, results_cell1 rfl rfl _ _ (w.heap.size + 1) (.bool false) rfl ((World.cell?_of_block (World.putObj_heap_other hne)).trans hcl), ?_⟩
    rw [HP.out]
    exact ⟨rfl, hB.trans ⟨rfl, rfl, rfl, by simp, fun q hq => World.putObj_heap_other (by omega)⟩⟩

set_option maxRecDepth 100000 in
set_option maxHeartbeats 1000000 in
theorem every_alike (p : Vl × Vl → Bool) (zs : List (Vl × Vl)) (hf : ∀ x ∈ zs, ∀ W, InK W x → Calls Tryz.prog 28 #[valK x] W (RetV W (.bool (p x)))) (ok : Vl × Vl → Prop) (hok : ∀ x ∈ zs, p x = true → ok x) (g : Nat) (lb : Array Value) (eg : Enters Tryz.prog g) (w : World)
    (hseq : ∀ D w2, Below w.heap.size w w2 → w.heap.size ≤ D → D < w2.heap.size → SeqO Tryz.prog g lb encK D ok zs w2) (hmem : ∀ x ∈ zs, InK w x) :
    Calls Tryz.prog 25 #[.func (.func g) #[] lb, .func (.func 28) #[] #[]] w (RetV w (.bool (zs.all p))) := by
  have HF := Lib.hid hf
  have HOK := Lib.hid hok
  have HE := Lib.hid eg
  have HS := Lib.hid hseq
  have HM := Lib.hid hmem
  clear hf hok eg hseq hmem
  refine (callsIn_wide (n := 6)).1 (callsIn_of_wp_marks Tryz.func25 rfl trivial ?_ rfl)
  simp only [Tryz.ntmps25, List.size_toArray, List.length_cons, List.length_nil, Nat.reduceAdd, Nat.reduceSub, Array.replicate_succ, Array.replicate_zero, List.push_toArray, List.append_toArray, List.nil_append, List.cons_append]
  gi_wp2_with fail
  obtain ⟨V, hV⟩ : ∃ V, (w.alloc (.cells #[.func (.func 28) #[] #[]] 74)).alloc (.cells #[.bool false] 4) = V := ⟨_, rfl⟩
  have hB0 : Below w.heap.size w V := by rw [← hV]; exact belAl (belAl (Below.refl _ _))
  have hsz : V.heap.size = w.heap.size + 2 := by rw [← hV]; simp
  have bR : Boxed V (w.heap.size + 1) 4 (.bool false) := by
    have := Boxed.new (w.alloc (.cells #[.func (.func 28) #[] #[]] 74)) 4 (.bool false)
    rw [World.size_alloc, hV] at this
    exact this
  have cI : V.cell? ⟨w.heap.size, 0, none⟩ = some (.func (.func 28) #[] #[]) := by
    rw [← hV]
    exact ((belAl1 (Below.refl (w.heap.size + 1) (w.alloc (.cells #[.func (.func 28) #[] #[]] 74))) (by simp)).cell (p := ⟨w.heap.size, 0, none⟩) (by simp)).trans (alloc_cells 0 _ rfl)
  rw [hV]
  clear hV
  refine range_own rfl HE.out (HS.out (w.heap.size + 1) V hB0 (by omega) (by omega)) (fun _ => rfl)
    (fun k X => (Boxed X (w.heap.size + 1) 4 (.bool false) ∧ Below w.heap.size w X) ∧ X.cell? ⟨w.heap.size, 0, none⟩ = some (.func (.func 28) #[] #[]) ∧ (zs.take k).all p = true)
    (fun c _ X => (Boxed X (w.heap.size + 1) 4 (.bool false) ∧ Below w.heap.size w X) ∧ c = .ret ∧ zs.all p = false)
    (fun k X Y ⟨⟨h1, h2⟩, h3, h4⟩ hb => ⟨⟨(hb.block _ (by omega)).trans h1, h2.trans (hb.mono (by omega))⟩, (hb.cell (p := ⟨w.heap.size, 0, none⟩) (by simp only; omega)).trans h3, h4⟩)
    (fun c k X Y ⟨⟨h1, h2⟩, h3⟩ hb => ⟨⟨(hb.block _ (by omega)).trans h1, h2.trans (hb.mono (by omega))⟩, h3⟩)
    ⟨⟨bR, hB0⟩, cI, rfl⟩
    (fun y a' X => ∃ bp, a' = { tmps := #[.func (.func g) #[] lb, .func (.func 28) #[] #[], undef, .pointer (some ⟨w.heap.size, 0, none⟩), .pointer (some ⟨w.heap.size + 1, 0, none⟩), .pointer (some ⟨bp, 0, none⟩), .func (.func g) #[] lb, valK y, undef, undef, undef, undef], defers := [] } ∧ ∀ i v, (cellsK y)[i]? = some v → X.cell? ⟨bp, i, none⟩ = some v)
    ?ax ?assign ?body ?done ?stop
  case ax =>
    rintro y a' _ X Y row ⟨bp, h1, h2⟩ hg hr
    exact ⟨bp, h1, fun i v h => cell_kept (h2 i v h) hg (fun r e => (hr r e).2)⟩
  case assign =>
    intro l2 k y X K _ _ hK
    obtain ⟨⟨yan, yam, yasA, yasc, yass, yacA, yacc, yacs, yavA, yavc, yavs⟩, yn, ym, ysA, ysc, yss, ycA, ycc, ycs, yvA, yvc, yvs⟩ := y
    unfold encK
    simp only [valK, cellsK, Vl.n, Vl.m, Vl.s1, Vl.c1, Vl.v1]
    gi_wp2
    exact hK _ _ (allocB _ _) ⟨X.heap.size, rfl, fun i v h => alloc_cells i v h⟩
  case body =>
    rintro l2 k y a' X hXs hx ⟨⟨h1, h2⟩, h3, h4⟩ ⟨bp, rfl, hc⟩
    have HX := Lib.hid hx
    have hb := h2
    have hcl := h1.cell
    have hcf := h1.frozen
    have HR := Lib.hid (HF.out y (List.mem_of_getElem? hx) X ((HM.out y (List.mem_of_getElem? hx)).later h2))
    obtain ⟨q, hq⟩ : ∃ q, p y = q := ⟨_, rfl⟩
    have HQ := Lib.hid hq
    have HP := Lib.hid h4
    rw [hq] at HR
    clear hx hq h4
    obtain ⟨⟨yan, yam, yasA, yasc, yass, yacA, yacc, yacs, yavA, yavc, yavs⟩, yn, ym, ysA, ysc, yss, ycA, ycc, ycs, yvA, yvc, yvs⟩ := y
    have e0 := hc 0 _ rfl
    have e1 := hc 1 _ rfl
    have e2 := hc 2 _ rfl
    have e3 := hc 3 _ rfl
    have e4 := hc 4 _ rfl
    have e5 := hc 5 _ rfl
    have e6 := hc 6 _ rfl
    have e7 := hc 7 _ rfl
    have e8 := hc 8 _ rfl
    have e9 := hc 9 _ rfl
    simp only [valK, cellsK, Vl.n, Vl.m, Vl.s1, Vl.c1, Vl.v1] at e0 e1 e2 e3 e4 e5 e6 e7 e8 e9 HR ⊢
    clear hc
    gi_wp2_with fail
    refine ⟨trivial, rfl, (CallsIn.inRound l2 (callsIn_wide.2 HR.out)).mono ?_⟩
    clear HR e0 e1 e2 e3 e4 e5 e6 e7 e8 e9
    rintro e X5 ⟨rfl, hb5⟩
    have g1 : Boxed X5 (w.heap.size + 1) 4 (.bool false) := (hb5.block _ (by omega)).trans h1
    have g3 := (hb5.cell (p := ⟨w.heap.size, 0, none⟩) (by simp only; omega)).trans h3
    have hB5 : Below w.heap.size w X5 := h2.trans (hb5.mono h2.size)
    cases q with
    | true =>
      gi_wp2_with fail
      exact ⟨KN.of_below hb5, ⟨⟨g1, hB5⟩, g3, by rw [all_take_succ HX.out, HP.out, HQ.out]; rfl⟩, HOK.out _ (List.mem_of_getElem? HX.out) HQ.out⟩
    | false =>
      have hcl5 := g1.cell
      have hcf5 := g1.frozen
      gi_wp2_with fail
      exact ⟨(KF.of_below hb5).trans (KF.set (by omega) _), ⟨g1.set _, hB5.setCell (by first | omega | (simp; omega) | simp) _⟩, rfl, all_false HX.out HQ.out⟩
  case done =>
    rintro E X hE ⟨⟨hR, hB⟩, -, hp⟩ hK
    have hcl := hR.cell
    have hcf := hR.frozen
    rw [List.take_length] at hp
    have HP := Lib.hid hp
    clear hp
    gi_wp2
    have hne : w.heap.size + 1 ≠ E := by omega
    have hK2 : (X.setCell ⟨w.heap.size + 1, 0, none⟩ (.bool true)).heap[E]? = some (.deferred (some [])) := (Below.heap_setCell _ _ _ _ (Ne.symm hne)).trans hK
    refine ⟨by simp, .inl ⟨_, _, rfl, run_takeDeferred hK2, ?_⟩⟩
    refine ⟨_, results_cell1 rfl rfl _ _ (w.heap.size + 1) (.bool true) rfl ((World.cell?_of_block (World.putObj_heap_other hne)).trans (hR.set (.bool true)).cell), ?_⟩
    rw [HP.out]
    exact ⟨rfl, (hB.setCell (by first | omega | (simp; omega) | simp) _).trans ⟨rfl, rfl, rfl, by simp, fun q hq => World.putObj_heap_other (by omega)⟩⟩
  case stop =>
    rintro E c k X hE hk ⟨⟨hR, hB⟩, rfl, hp⟩ hK
    have hcl := hR.cell
    have HP := Lib.hid hp
    clear hp
    gi_wp2
    have hne : w.heap.size + 1 ≠ E := by omega
    refine ⟨by simp, .inl ⟨_, _, rfl, run_takeDeferred hK, ?_⟩⟩
    refine ⟨_, results_cell1 rfl rfl _ _ (w.heap.size + 1) (.bool false) rfl ((World.cell?_of_block (World.putObj_heap_other hne)).trans hcl), ?_⟩
    rw [HP.out]
    exact ⟨rfl, hB.trans ⟨rfl, rfl, rfl, by simp, fun q hq => World.putObj_heap_other (by omega)⟩⟩

set_option maxRecDepth 100000 in
set_option maxHeartbeats 1000000 in
theorem every_clock (p : Ck → Bool) (zs : List (Ck)) (hf : ∀ x ∈ zs, ∀ W, InC W x → Calls Tryz.prog 110 #[Ck.v x] W (RetV W (.bool (p x)))) (ok : Ck → Prop) (hok : ∀ x ∈ zs, p x = true → ok x) (g : Nat) (lb : Array Value) (eg : Enters Tryz.prog g) (w : World)
    (hseq : ∀ D w2, Below w.heap.size w w2 → w.heap.size ≤ D → D < w2.heap.size → SeqO Tryz.prog g lb encC D ok zs w2) (hmem : ∀ x ∈ zs, InC w x) :
    Calls Tryz.prog 111 #[.func (.func g) #[] lb, .func (.func 110) #[] #[]] w (RetV w (.bool (zs.all p))) := by
  have HF := Lib.hid hf
  have HOK := Lib.hid hok
  have HE := Lib.hid eg
  have HS := Lib.hid hseq
  have HM := Lib.hid hmem
  clear hf hok eg hseq hmem
  refine (callsIn_wide (n := 6)).1 (callsIn_of_wp_marks Tryz.func111 rfl trivial ?_ rfl)
  simp only [Tryz.ntmps111, List.size_toArray, List.length_cons, List.length_nil, Nat.reduceAdd, Nat.reduceSub, Array.replicate_succ, Array.replicate_zero, List.push_toArray, List.append_toArray, List.nil_append, List.cons_append]
  gi_wp2_with fail
  obtain ⟨V, hV⟩ : ∃ V, (w.alloc (.cells #[.func (.func 110) #[] #[]] 45)).alloc (.cells #[.bool false] 4) = V := ⟨_, rfl⟩
  have hB0 : Below w.heap.size w V := by rw [← hV]; exact belAl (belAl (Below.refl _ _))
  have hsz : V.heap.size = w.heap.size + 2 := by rw [← hV]; simp
  have bR : Boxed V (w.heap.size + 1) 4 (.bool false) := by
    have := Boxed.new (w.alloc (.cells #[.func (.func 110) #[] #[]] 45)) 4 (.bool false)
    rw [World.size_alloc, hV] at this
    exact this
  have cI : V.cell? ⟨w.heap.size, 0, none⟩ = some (.func (.func 110) #[] #[]) := by
    rw [← hV]
    exact ((belAl1 (Below.refl (w.heap.size + 1) (w.alloc (.cells #[.func (.func 110) #[] #[]] 45))) (by simp)).cell (p := ⟨w.heap.size, 0, none⟩) (by simp)).trans (alloc_cells 0 _ rfl)
  rw [hV]
  clear hV
  refine range_own rfl HE.out (HS.out (w.heap.size + 1) V hB0 (by omega) (by omega)) (fun _ => rfl)
    (fun k X => (Boxed X (w.heap.size + 1) 4 (.bool false) ∧ Below w.heap.size w X) ∧ X.cell? ⟨w.heap.size, 0, none⟩ = some (.func (.func 110) #[] #[]) ∧ (zs.take k).all p = true)
    (fun c _ X => (Boxed X (w.heap.size + 1) 4 (.bool false) ∧ Below w.heap.size w X) ∧ c = .ret ∧ zs.all p = false)
    (fun k X Y ⟨⟨h1, h2⟩, h3, h4⟩ hb => ⟨⟨(hb.block _ (by omega)).trans h1, h2.trans (hb.mono (by omega))⟩, (hb.cell (p := ⟨w.heap.size, 0, none⟩) (by simp only; omega)).trans h3, h4⟩)
    (fun c k X Y ⟨⟨h1, h2⟩, h3⟩ hb => ⟨⟨(hb.block _ (by omega)).trans h1, h2.trans (hb.mono (by omega))⟩, h3⟩)
    ⟨⟨bR, hB0⟩, cI, rfl⟩
    (fun y a' _ => a' = { tmps := #[.func (.func g) #[] lb, .func (.func 110) #[] #[], undef, .pointer (some ⟨w.heap.size, 0, none⟩), .pointer (some ⟨w.heap.size + 1, 0, none⟩), Ck.v y, .func (.func g) #[] lb, Ck.v y, undef, undef, undef, undef], defers := [] })
    ?ax ?assign ?body ?done ?stop
  case ax =>
    rintro y a' _ X Y row h1 hg hr
    exact h1
  case assign =>
    intro l2 k y X K _ _ hK
    unfold encC
    gi_wp2
    exact hK _ _ (Below.refl _ _) rfl
  case body =>
    rintro l2 k y a' X hXs hx ⟨⟨h1, h2⟩, h3, h4⟩ rfl
    have HX := Lib.hid hx
    have hb := h2
    have hcl := h1.cell
    have hcf := h1.frozen
    have HR := Lib.hid (HF.out y (List.mem_of_getElem? hx) X ((HM.out y (List.mem_of_getElem? hx)).later h2))
    obtain ⟨q, hq⟩ : ∃ q, p y = q := ⟨_, rfl⟩
    have HQ := Lib.hid hq
    have HP := Lib.hid h4
    rw [hq] at HR
    clear hx hq h4

    gi_wp2_with fail
    refine ⟨trivial, rfl, (CallsIn.inRound l2 (callsIn_wide.2 HR.out)).mono ?_⟩
    clear HR
    rintro e X5 ⟨rfl, hb5⟩
    have g1 : Boxed X5 (w.heap.size + 1) 4 (.bool false) := (hb5.block _ (by omega)).trans h1
    have g3 := (hb5.cell (p := ⟨w.heap.size, 0, none⟩) (by simp only; omega)).trans h3
    have hB5 : Below w.heap.size w X5 := h2.trans (hb5.mono h2.size)
    cases q with
    | true =>
      gi_wp2_with fail
      exact ⟨KN.of_below hb5, ⟨⟨g1, hB5⟩, g3, by rw [all_take_succ HX.out, HP.out, HQ.out]; rfl⟩, HOK.out _ (List.mem_of_getElem? HX.out) HQ.out⟩
    | false =>
      have hcl5 := g1.cell
      have hcf5 := g1.frozen
      gi_wp2_with fail
      exact ⟨(KF.of_below hb5).trans (KF.set (by omega) _), ⟨g1.set _, hB5.setCell (by first | omega | (simp; omega) | simp) _⟩, rfl, all_false HX.out HQ.out⟩
  case done =>
    rintro E X hE ⟨⟨hR, hB⟩, -, hp⟩ hK
    have hcl := hR.cell
    have hcf := hR.frozen
    rw [List.take_length] at hp
    have HP := Lib.hid hp
    clear hp
    gi_wp2
    have hne : w.heap.size + 1 ≠ E := by omega
    have hK2 : (X.setCell ⟨w.heap.size + 1, 0, none⟩ (.bool true)).heap[E]? = some (.deferred (some [])) := (Below.heap_setCell _ _ _ _ (Ne.symm hne)).trans hK
    refine ⟨by simp, .inl ⟨_, _, rfl, run_takeDeferred hK2, ?_⟩⟩
    refine ⟨_, results_cell1 rfl rfl _ _ (w.heap.size + 1) (.bool true) rfl ((World.cell?_of_block (World.putObj_heap_other hne)).trans (hR.set (.bool true)).cell), ?_⟩
    rw [HP.out]
    exact ⟨rfl, (hB.setCell (by first | omega | (simp; omega) | simp) _).trans ⟨rfl, rfl, rfl, by simp, fun q hq => World.putObj_heap_other (by omega)⟩⟩
  case stop =>
    rintro E c k X hE hk ⟨⟨hR, hB⟩, rfl, hp⟩ hK
    have hcl := hR.cell
    have HP := Lib.hid hp
    clear hp
    gi_wp2
    have hne : w.heap.size + 1 ≠ E := by omega
    refine ⟨by simp, .inl ⟨_, _, rfl, run_takeDeferred hK, ?_⟩⟩
    refine ⟨_, results_cell1 rfl rfl _ _ (w.heap.size + 1) (.bool false) rfl ((World.cell?_of_block (World.putObj_heap_other hne)).trans hcl), ?_⟩
    rw [HP.out]
    exact ⟨rfl, hB.trans ⟨rfl, rfl, rfl, by simp, fun q hq => World.putObj_heap_other (by omega)⟩⟩
end Go.Proofs.YtdbohojncbeajaaGreat.V4

namespace Go.Proofs.YtdbohojncbeajaaGreat.V4
open Go.RowKit
open C3 (Tk Asc isC ofC cmpC Nok In belAl allocB drewB RetT)
open S2 (Tr Sc isT)

theorem isT_ins {n : Nat} {k : Int} {l : List Tr} (h : isT (n + 1) (.mk k l) = true) : ∀ t ∈ l, isT n t = true := by
  rw [isT, Bool.and_eq_true] at h
  exact fun t ht => List.all_eq_true.1 h.2 t ht

end Go.Proofs.YtdbohojncbeajaaGreat.V4
