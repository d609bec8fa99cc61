/- What join.joinPairs does. No condition but that what it takes lies in memory. -/
import Derived.Test.YtdbohojncbeajaaGreatMo24
import Derived.Deep.DeepCutAuto
namespace Go.Proofs.YtdbohojncbeajaaGreat.J5
open Go.RowKit Go.Shelf
open C3 (Tk In belAl allocB)
open S2 (Sc Tr isT)
open V4 (Va Vl Ck isV botT LiesC cellsV val_mk er_mk takeH)

theorem make_two (W : World) : (Instr.makeSlice 27 (.int .i64 2) (.int .i64 2)).run Tryz.prog W = .ok (.slice (some ⟨W.heap.size, 0, none⟩) 2 2) (W.alloc (.cells #[.int .u64 0, .int .u64 0, .slice none 0 0, .slice none 0 0, .slice none 0 0, .int .u64 0, .int .u64 0, .slice none 0 0, .slice none 0 0, .slice none 0 0] 29)) := by kernel_rfl

/-- What a round of it leaves: a value in a box of its own, or the error. -/
def MidP (U : World) (o : Option Va) (s11 s12 : Value) (wx : World) : Prop :=
  ∃ (pb : Nat) (z : Vl), s11 = .pointer (some ⟨pb, 0, none⟩) ∧ U.heap.size ≤ pb ∧ Blk wx pb 29 #[.int .u64 z.n, .int .u64 z.m, z.s1, z.c1, z.v1] ∧ z.Inp (fun b => U.heap.size ≤ b ∧ b < wx.heap.size ∧ b ≠ pb) wx ∧ Below U.heap.size U wx ∧ ((o = none ∧ s12 = errV 13) ∨ (o = some z.er ∧ s12 = .nilIface))
theorem midP_mk {U T : World} {o : Option Va} {ev : Value} {pb : Nat} {z : Vl} {M : Nat} {z0 z1 z2 z3 z4 : Value} (hq : Blk T pb 29 #[z0, z1, z2, z3, z4]) (hpb : U.heap.size ≤ pb) (hz : z.Inp (fun b => M ≤ b ∧ b < T.heap.size ∧ b ≠ pb) T) (hM : U.heap.size ≤ M) (hb : Below U.heap.size U T) (hc : (o = some z.er ∧ ev = .nilIface) ∨ (o = none ∧ z = vlZ ∧ ev = errV 13)) :
    MidP U o (.pointer (some ⟨pb, 0, none⟩)) ev (set5 T pb (.int .u64 z.n) (.int .u64 z.m) z.s1 z.c1 z.v1) := by
  refine ⟨pb, z, rfl, hpb, set5_blk hq, (hz.keep fun b hP => set5_low hP.2.2).mono fun b hP => ⟨by have := hP.1; omega, ?_, hP.2.2⟩, set5_bel hb hpb, ?_⟩
  · exact Nat.lt_of_lt_of_le hP.2.1 (Nat.le_of_eq set5_size.symm)
  · rcases hc with ⟨h1, h2⟩ | ⟨h1, _, h2⟩
    · exact .inr ⟨h1, h2⟩
    · exact .inl ⟨h1, h2⟩

/-- Five cells from the fifth on. -/
def set5b (W : World) (D : Nat) (v0 v1 v2 v3 v4 : Value) : World := ((((W.setCell ⟨D, 5, none⟩ v0).setCell ⟨D, 6, none⟩ v1).setCell ⟨D, 7, none⟩ v2).setCell ⟨D, 8, none⟩ v3).setCell ⟨D, 9, none⟩ v4
theorem set5b_low {W : World} {D b : Nat} {v0 v1 v2 v3 v4 : Value} (h : b ≠ D) : (set5b W D v0 v1 v2 v3 v4).heap[b]? = W.heap[b]? := by
  unfold set5b
  rw [Below.heap_setCell _ _ _ _ (by simpa using h), Below.heap_setCell _ _ _ _ (by simpa using h), Below.heap_setCell _ _ _ _ (by simpa using h), Below.heap_setCell _ _ _ _ (by simpa using h), Below.heap_setCell _ _ _ _ (by simpa using h)]
theorem set5b_size {W : World} {D : Nat} {v0 v1 v2 v3 v4 : Value} : (set5b W D v0 v1 v2 v3 v4).heap.size = W.heap.size := by unfold set5b; simp
theorem set5b_bel {w W : World} {n D : Nat} {v0 v1 v2 v3 v4 : Value} (h : Below n w W) (hD : n ≤ D) : Below n w (set5b W D v0 v1 v2 v3 v4) := ((((h.setCell hD v0).setCell hD v1).setCell hD v2).setCell hD v3).setCell hD v4
theorem set10_blk {W : World} {D : Nat} {t : TypeId} {u0 u1 u2 u3 u4 z0 z1 z2 z3 z4 v0 v1 v2 v3 v4 : Value} (h : Blk W D t #[u0, u1, u2, u3, u4, z0, z1, z2, z3, z4]) : Blk (set5 W D v0 v1 v2 v3 v4) D t #[v0, v1, v2, v3, v4, z0, z1, z2, z3, z4] := ((((h.set 0 v0).set 1 v1).set 2 v2).set 3 v3).set 4 v4
theorem set10b_blk {W : World} {D : Nat} {t : TypeId} {u0 u1 u2 u3 u4 z0 z1 z2 z3 z4 v0 v1 v2 v3 v4 : Value} (h : Blk W D t #[u0, u1, u2, u3, u4, z0, z1, z2, z3, z4]) : Blk (set5b W D v0 v1 v2 v3 v4) D t #[u0, u1, u2, u3, u4, v0, v1, v2, v3, v4] := ((((h.set 5 v0).set 6 v1).set 7 v2).set 8 v3).set 9 v4

set_option maxRecDepth 100000 in
set_option maxHeartbeats 8000000 in
theorem pairs_do : PairsDo := by
  intro A c a b x y f g w hls ha hb hx hy lx ly hf hg
  have e0 : ∀ (X : Vl) (i : Nat), i < 2 → (X.vs = [] ∨ X.vs.length = 2) → (X.vs = [] ∨ i < X.vs.length) := fun X i hi h => h.imp id fun h => by omega
  have HX0 := Lib.hid (fun W (h : Below w.heap.size w W) => half_any x 0 W (hx.later h) (e0 x 0 (by omega) lx))
  have HX1 := Lib.hid (fun W (h : Below w.heap.size w W) => half_any x 1 W (hx.later h) (e0 x 1 (by omega) lx))
  have HY0 := Lib.hid (fun W (h : Below w.heap.size w W) => half_any y 0 W (hy.later h) (e0 y 0 (by omega) ly))
  have HY1 := Lib.hid (fun W (h : Below w.heap.size w W) => half_any y 1 W (hy.later h) (e0 y 1 (by omega) ly))
  obtain ⟨o0, ho0⟩ : ∃ o, f (halfE x.er 0) (halfE y.er 0) = o := ⟨_, rfl⟩
  obtain ⟨o1, ho1⟩ : ∃ o, g (halfE x.er 1) (halfE y.er 1) = o := ⟨_, rfl⟩
  have HPE : Hid (pairE f g x.er y.er = o0.bind fun u => o1.map fun v => .mk 0 0 [] [] [u, v]) := by show pairE f g x.er y.er = _; unfold pairE; rw [ho0, ho1]
  rw [ho0] at hf
  rw [ho1] at hg
  have HJ0 := Lib.hid hf
  have HJ1 := Lib.hid hg
  obtain ⟨R, hR⟩ : ∃ R, pairE f g x.er y.er = R := ⟨_, rfl⟩
  rw [hR] at HPE
  rw [hR]
  obtain ⟨X0, hX0⟩ : ∃ X, halfV x 0 = X := ⟨_, rfl⟩
  obtain ⟨X1, hX1⟩ : ∃ X, halfV x 1 = X := ⟨_, rfl⟩
  obtain ⟨Y0, hY0⟩ : ∃ X, halfV y 0 = X := ⟨_, rfl⟩
  obtain ⟨Y1, hY1⟩ : ∃ X, halfV y 1 = X := ⟨_, rfl⟩
  rw [hX0] at HX0 HJ0
  rw [hX1] at HX1 HJ1
  rw [hY0] at HY0 HJ0
  rw [hY1] at HY1 HJ1
  obtain ⟨rb, ro, rfl, hrb, hcl⟩ := hls.get (k := 0) (by simp)
  obtain ⟨r0, r1⟩ := hcl 0 a rfl
  obtain ⟨r2, r3⟩ := hcl 1 b rfl
  clear hR hX0 hX1 hY0 hY1 ho0 ho1 hf hg e0 hx hy lx ly ha hb hls hcl
  obtain ⟨ak, aA, ac, al⟩ := a
  obtain ⟨bk, bA, bc, bl⟩ := b
  obtain ⟨n, m, sA, sc, ss, cA, cc, cs, vA, vc, vs⟩ := x
  obtain ⟨n', m', sA', sc', ss', cA', cc', cs', vA', vc', vs'⟩ := y
  obtain ⟨x0n, x0m, x0sA, x0sc, x0ss, x0cA, x0cc, x0cs, x0vA, x0vc, x0vs⟩ := X0
  obtain ⟨x1n, x1m, x1sA, x1sc, x1ss, x1cA, x1cc, x1cs, x1vA, x1vc, x1vs⟩ := X1
  obtain ⟨y0n, y0m, y0sA, y0sc, y0ss, y0cA, y0cc, y0cs, y0vA, y0vc, y0vs⟩ := Y0
  obtain ⟨y1n, y1m, y1sA, y1sc, y1ss, y1cA, y1cc, y1cs, y1vA, y1vc, y1vs⟩ := Y1
  simp only [S2.val_mk, val_mk] at HX0 HX1 HY0 HY1 HJ0 HJ1 ⊢
  simp only [S2.Sc.k, S2.Sc.v1, Nat.zero_mul, Nat.add_zero, Nat.one_mul] at r0 r1 r2 r3
  have hmk := make_two
  obtain ⟨V, hV⟩ : ∃ V, ((((w.alloc (.cells #[.int .u64 n, .int .u64 m, .slice sA ss.length sc, .slice cA cs.length cc, .slice vA vs.length vc] 29)).alloc (.cells #[.int .u64 n', .int .u64 m', .slice sA' ss'.length sc', .slice cA' cs'.length cc', .slice vA' vs'.length vc'] 29)).alloc (.cells #[.int .u64 0, .int .u64 0, .slice none 0 0, .slice none 0 0, .slice none 0 0] 29)).alloc (.cells #[.int .u64 0, .int .u64 0, .slice none 0 0, .slice none 0 0, .slice none 0 0, .int .u64 0, .int .u64 0, .slice none 0 0, .slice none 0 0, .slice none 0 0] 29)) = V := ⟨_, rfl⟩
  have bV : Below w.heap.size w V := by rw [← hV]; exact belAl (belAl (belAl (belAl (Below.refl _ _))))
  have BV : Below w.heap.size w V := bV
  have qx : Blk V w.heap.size 29 #[.int .u64 n, .int .u64 m, .slice sA ss.length sc, .slice cA cs.length cc, .slice vA vs.length vc] := by rw [← hV]; exact (((Blk.new w _ _).below (allocB _ _)).below (allocB _ _)).below (allocB _ _)
  have qy : Blk V (w.heap.size + 1) 29 #[.int .u64 n', .int .u64 m', .slice sA' ss'.length sc', .slice cA' cs'.length cc', .slice vA' vs'.length vc'] := by
    rw [← hV]
    have := Blk.new (w.alloc (.cells #[.int .u64 n, .int .u64 m, .slice sA ss.length sc, .slice cA cs.length cc, .slice vA vs.length vc] 29)) 29 #[.int .u64 n', .int .u64 m', .slice sA' ss'.length sc', .slice cA' cs'.length cc', .slice vA' vs'.length vc']
    rw [World.size_alloc] at this
    exact (this.below (allocB _ _)).below (allocB _ _)
  have qr : Blk V (w.heap.size + 1 + 1) 29 #[.int .u64 0, .int .u64 0, .slice none 0 0, .slice none 0 0, .slice none 0 0] := by
    rw [← hV]
    have := Blk.new ((w.alloc (.cells #[.int .u64 n, .int .u64 m, .slice sA ss.length sc, .slice cA cs.length cc, .slice vA vs.length vc] 29)).alloc (.cells #[.int .u64 n', .int .u64 m', .slice sA' ss'.length sc', .slice cA' cs'.length cc', .slice vA' vs'.length vc'] 29)) 29 #[.int .u64 0, .int .u64 0, .slice none 0 0, .slice none 0 0, .slice none 0 0]
    rw [World.size_alloc, World.size_alloc] at this
    exact this.below (allocB _ _)
  have qm : Blk V (w.heap.size + 1 + 1 + 1) 29 #[.int .u64 0, .int .u64 0, .slice none 0 0, .slice none 0 0, .slice none 0 0, .int .u64 0, .int .u64 0, .slice none 0 0, .slice none 0 0, .slice none 0 0] := by
    rw [← hV]
    have := Blk.new (((w.alloc (.cells #[.int .u64 n, .int .u64 m, .slice sA ss.length sc, .slice cA cs.length cc, .slice vA vs.length vc] 29)).alloc (.cells #[.int .u64 n', .int .u64 m', .slice sA' ss'.length sc', .slice cA' cs'.length cc', .slice vA' vs'.length vc'] 29)).alloc (.cells #[.int .u64 0, .int .u64 0, .slice none 0 0, .slice none 0 0, .slice none 0 0] 29)) 29 #[.int .u64 0, .int .u64 0, .slice none 0 0, .slice none 0 0, .slice none 0 0, .int .u64 0, .int .u64 0, .slice none 0 0, .slice none 0 0, .slice none 0 0]
    rw [World.size_alloc, World.size_alloc, World.size_alloc] at this
    exact this
  have hsV : w.heap.size + 4 ≤ V.heap.size := qm.lt
  go_enter Tryz.func46, Tryz.ntmps46
  go_wp2_with fail
  clear hV hmk
  refine wp_loop_rounds 3 ?_
  rw [rounds_succ]
  have cr0 : V.cell? ⟨rb, ro, none⟩ = some (.int .i64 ak) := (BV.cell (p := ⟨rb, ro, none⟩) hrb).trans r0
  have cr1 : V.cell? ⟨rb, ro + 1, none⟩ = some (.slice aA al.length ac) := (BV.cell (p := ⟨rb, ro + 1, none⟩) hrb).trans r1
  obtain ⟨U0, hU0⟩ : ∃ U0, V.alloc (.cells #[.int .i64 ak, .slice aA al.length ac] 37) = U0 := ⟨_, rfl⟩
  have bU0 : Below V.heap.size V U0 := by rw [← hU0]; exact allocB _ _
  have BU0 : Below w.heap.size w U0 := BV.trans (bU0.mono BV.size)
  have qs : Blk U0 V.heap.size 37 #[.int .i64 ak, .slice aA al.length ac] := by rw [← hU0]; exact Blk.new _ _ _
  replace qx := qx.below bU0
  replace qy := qy.below bU0
  replace qr := qr.below bU0
  replace qm := qm.below bU0
  have hsU0 : w.heap.size + 4 ≤ V.heap.size := by have := bU0.size; omega
  have hslU0 : V.heap.size < U0.heap.size := qs.lt
  go_upto_region 5 with fail
  clear cr0 cr1 hU0
  go_cut [11, 12, 18] from 18 to 42 (fun s11 s12 s18 wx => Hid (MidP U0 o0 s11 s12 wx) ∧ s18 = .int .i64 0)
  case first =>
    have lb0 : w.heap.size < U0.heap.size := by omega
    have lb1 : w.heap.size + 1 < U0.heap.size := by omega
    have lbs : V.heap.size < U0.heap.size := by omega
    have HK : Hid (∀ W, Below U0.heap.size U0 W → (fun w' => w'.cell? ⟨V.heap.size, 0, none⟩ = some (.int .i64 ak) ∧ w'.cell? ⟨V.heap.size, 1, none⟩ = some (.slice aA al.length ac) ∧ w'.cell? ⟨w.heap.size, 0, none⟩ = some (.int .u64 n) ∧ w'.cell? ⟨w.heap.size, 1, none⟩ = some (.int .u64 m) ∧ w'.cell? ⟨w.heap.size, 2, none⟩ = some (.slice sA ss.length sc) ∧ w'.cell? ⟨w.heap.size, 3, none⟩ = some (.slice cA cs.length cc) ∧ w'.cell? ⟨w.heap.size, 4, none⟩ = some (.slice vA vs.length vc) ∧ w'.cell? ⟨w.heap.size + 1, 0, none⟩ = some (.int .u64 n') ∧ w'.cell? ⟨w.heap.size + 1, 1, none⟩ = some (.int .u64 m') ∧ w'.cell? ⟨w.heap.size + 1, 2, none⟩ = some (.slice sA' ss'.length sc') ∧ w'.cell? ⟨w.heap.size + 1, 3, none⟩ = some (.slice cA' cs'.length cc') ∧ w'.cell? ⟨w.heap.size + 1, 4, none⟩ = some (.slice vA' vs'.length vc')) W) := fun W hW => ⟨(hW.cell (p := ⟨V.heap.size, 0, none⟩) lbs).trans (blk_cell qs 0 _ rfl), (hW.cell (p := ⟨V.heap.size, 1, none⟩) lbs).trans (blk_cell qs 1 _ rfl), (hW.cell (p := ⟨w.heap.size, 0, none⟩) lb0).trans (blk_cell qx 0 _ rfl), (hW.cell (p := ⟨w.heap.size, 1, none⟩) lb0).trans (blk_cell qx 1 _ rfl), (hW.cell (p := ⟨w.heap.size, 2, none⟩) lb0).trans (blk_cell qx 2 _ rfl), (hW.cell (p := ⟨w.heap.size, 3, none⟩) lb0).trans (blk_cell qx 3 _ rfl), (hW.cell (p := ⟨w.heap.size, 4, none⟩) lb0).trans (blk_cell qx 4 _ rfl), (hW.cell (p := ⟨w.heap.size + 1, 0, none⟩) lb1).trans (blk_cell qy 0 _ rfl), (hW.cell (p := ⟨w.heap.size + 1, 1, none⟩) lb1).trans (blk_cell qy 1 _ rfl), (hW.cell (p := ⟨w.heap.size + 1, 2, none⟩) lb1).trans (blk_cell qy 2 _ rfl), (hW.cell (p := ⟨w.heap.size + 1, 3, none⟩) lb1).trans (blk_cell qy 3 _ rfl), (hW.cell (p := ⟨w.heap.size + 1, 4, none⟩) lb1).trans (blk_cell qy 4 _ rfl)⟩
    have HW : Hid (Below w.heap.size w U0) := BU0
    refine wp_region_noPanic ?_
    refine wp_region_held_drew (S := (fun w' => w'.cell? ⟨V.heap.size, 0, none⟩ = some (.int .i64 ak) ∧ w'.cell? ⟨V.heap.size, 1, none⟩ = some (.slice aA al.length ac) ∧ w'.cell? ⟨w.heap.size, 0, none⟩ = some (.int .u64 n) ∧ w'.cell? ⟨w.heap.size, 1, none⟩ = some (.int .u64 m) ∧ w'.cell? ⟨w.heap.size, 2, none⟩ = some (.slice sA ss.length sc) ∧ w'.cell? ⟨w.heap.size, 3, none⟩ = some (.slice cA cs.length cc) ∧ w'.cell? ⟨w.heap.size, 4, none⟩ = some (.slice vA vs.length vc) ∧ w'.cell? ⟨w.heap.size + 1, 0, none⟩ = some (.int .u64 n') ∧ w'.cell? ⟨w.heap.size + 1, 1, none⟩ = some (.int .u64 m') ∧ w'.cell? ⟨w.heap.size + 1, 2, none⟩ = some (.slice sA' ss'.length sc') ∧ w'.cell? ⟨w.heap.size + 1, 3, none⟩ = some (.slice cA' cs'.length cc') ∧ w'.cell? ⟨w.heap.size + 1, 4, none⟩ = some (.slice vA' vs'.length vc'))) (by kernel_rfl) ?_ (fun hHeld => ?_)
    · exact HK.out _ (Below.refl _ _).drew
    obtain ⟨D, hD⟩ : ∃ D, U0.drew = D := ⟨_, rfl⟩
    rw [hD] at hHeld ⊢
    have HB : Hid (Below U0.heap.size U0 D) := by rw [← hD]; exact (Below.refl _ _).drew
    clear hD
    refine takeH 0 24 (v := ?t1_v) rfl rfl (by kernel_rfl) (by kernel_rfl) (by kernel_rfl) (fun _ _ _ h => h) (Or.inl ⟨by rfl, ?t1_h⟩) (by assumption) ?t1_r
    case t1_h => (intro w hSw; (try dsimp only at hSw); go_simp; try (with_reducible rfl))
    simp only [List.set_cons_zero, List.set_cons_succ]
    refine takeH 1 25 (v := ?t2_v) rfl rfl (by kernel_rfl) (by kernel_rfl) (by kernel_rfl) (fun _ _ _ h => h) (Or.inl ⟨by rfl, ?t2_h⟩) (by assumption) ?t2_r
    case t2_h => (intro w hSw; (try dsimp only at hSw); go_simp; try (with_reducible rfl))
    simp only [List.set_cons_zero, List.set_cons_succ]
    refine takeH 2 26 (v := ?t3_v) rfl rfl (by kernel_rfl) (by kernel_rfl) (by kernel_rfl) (fun _ _ _ h => h) (Or.inl ⟨by rfl, ?t3_h⟩) (by assumption) ?t3_r
    case t3_h => (intro w hSw; (try dsimp only at hSw); go_simp; try (with_reducible rfl))
    simp only [List.set_cons_zero, List.set_cons_succ]
    refine takeH 4 28 (v := ?t4_v) rfl rfl (by kernel_rfl) (by kernel_rfl) (by kernel_rfl) (fun _ _ _ h => h) (Or.inl ⟨by rfl, ?t4_h⟩) (by assumption) ?t4_r
    case t4_h => (intro w hSw; (try dsimp only at hSw); go_simp; try (with_reducible rfl))
    simp only [List.set_cons_zero, List.set_cons_succ]
    refine takeH 5 29 (v := ?t5_v) rfl rfl (by kernel_rfl) (by kernel_rfl) (by kernel_rfl) (fun _ _ _ h => h) (Or.inl ⟨by rfl, ?t5_h⟩) (by assumption) ?t5_r
    case t5_h => (intro w hSw; (try dsimp only at hSw); go_simp; try (with_reducible rfl))
    simp only [List.set_cons_zero, List.set_cons_succ]
    refine wpAnyH_ready (rs := [3, 11]) (by kernel_rfl) (by simp) ?_
    refine AllReadyH.cons rfl (fun K hK => ?n6_a) (AllReadyH.cons rfl (fun K hK => ?n6_b) AllReadyH.nil)
    case n6_a =>
      go_simp
      go_wp2_with (go_at_call 64; refine (HX0.out _ (HW.out.trans (HB.out.mono HW.out.size))).mono ?_; rintro e Da ⟨rfl, _, hbn⟩)
      replace HB : Hid (Below U0.heap.size U0 Da) := HB.out.trans (hbn.mono HB.out.size)
      clear hbn
      refine hK.out _ _ ?_ (fun hHeld => ?_)
      · exact HK.out _ HB.out
      clear hK K
      refine wpAnyH_ready (rs := [6, 11]) (by kernel_rfl) (by simp) ?_
      refine AllReadyH.cons rfl (fun K hK => ?n7_a) (AllReadyH.cons rfl (fun K hK => ?n7_b) AllReadyH.nil)
      case n7_a =>
        go_simp
        go_wp2_with (go_at_call 64; refine (HY0.out _ (HW.out.trans (HB.out.mono HW.out.size))).mono ?_; rintro e Dab ⟨rfl, _, hbn⟩)
        replace HB : Hid (Below U0.heap.size U0 Dab) := HB.out.trans (hbn.mono HB.out.size)
        clear hbn
        refine hK.out _ _ ?_ (fun hHeld => ?_)
        · exact HK.out _ HB.out
        clear hK K
        refine wpAnyH_ready (rs := [7, 11]) (by kernel_rfl) (by simp) ?_
        refine AllReadyH.cons rfl (fun K hK => ?n8_a) (AllReadyH.cons rfl (fun K hK => ?n8_b) AllReadyH.nil)
        case n8_a =>
          go_simp
          go_wp2_with (go_at_call 31; refine (HJ0.out _ (HW.out.trans (HB.out.mono HW.out.size))).mono ?_; rintro e Dabc hr; (obtain ⟨⟨un, um, usA, usc, uss, ucA, ucc, ucs, uvA, uvc, uvs⟩, ev, rfl, hzi, hbn, hcase⟩ := retJ_case hr; simp only [val_mk]; clear hr))
          have hM : U0.heap.size ≤ Dab.heap.size := HB.out.size
          replace HB : Hid (Below U0.heap.size U0 Dabc) := HB.out.trans (hbn.mono HB.out.size)
          refine hK.out _ _ ?_ (fun hHeld => ?_)
          · exact HK.out _ HB.out
          clear hK K
          refine takeH 8 23 (v := ?t9_v) rfl rfl (by kernel_rfl) (by kernel_rfl) (by kernel_rfl) (fun _ _ _ h => h) (Or.inl ⟨by rfl, ?t9_h⟩) (by assumption) ?t9_r
          case t9_h => (intro w hSw; (try dsimp only at hSw); go_simp; try (with_reducible rfl))
          simp only [List.set_cons_zero, List.set_cons_succ]
          refine takeH 9 32 (v := ?t10_v) rfl rfl (by kernel_rfl) (by kernel_rfl) (by kernel_rfl) (fun _ _ _ h => h) (Or.inl ⟨by rfl, ?t10_h⟩) (by assumption) ?t10_r
          case t10_h => (intro w hSw; (try dsimp only at hSw); go_simp; try (with_reducible rfl))
          simp only [List.set_cons_zero, List.set_cons_succ]
          refine takeH 10 33 (v := ?t11_v) rfl rfl (by kernel_rfl) (by kernel_rfl) (by kernel_rfl) (fun _ _ _ h => h) (Or.inl ⟨by rfl, ?t11_h⟩) (by assumption) ?t11_r
          case t11_h => (intro w hSw; (try dsimp only at hSw); go_simp; try (with_reducible rfl))
          simp only [List.set_cons_zero, List.set_cons_succ]
          refine wpAnyH_ready (rs := [11]) (by kernel_rfl) (by simp) ?_
          refine AllReadyH.cons rfl (fun K hK => ?_) AllReadyH.nil
          go_simp
          obtain ⟨Dabcp, hDabcp⟩ : ∃ Dabcp, Dabc.alloc (.cells #[.int .u64 0, .int .u64 0, .slice none 0 0, .slice none 0 0, .slice none 0 0] 29) = Dabcp := ⟨_, rfl⟩
          rw [hDabcp]
          have hbn : Below Dabc.heap.size Dabc Dabcp := by rw [← hDabcp]; exact allocB _ _
          have HPB : Hid (Blk Dabcp Dabc.heap.size 29 #[.int .u64 0, .int .u64 0, .slice none 0 0, .slice none 0 0, .slice none 0 0]) := by rw [← hDabcp]; exact Blk.new _ _ _
          have hpb : U0.heap.size ≤ Dabc.heap.size := HB.out.size
          replace HB : Hid (Below U0.heap.size U0 Dabcp) := HB.out.trans (hbn.mono HB.out.size)
          refine hK.out _ _ ?_ (fun hHeld => ?_)
          · exact HK.out _ HB.out
          clear hK K
          have HZI : Hid ((Vl.mk un um usA usc uss ucA ucc ucs uvA uvc uvs).Inp (fun b => Dab.heap.size ≤ b ∧ b < Dabcp.heap.size ∧ b ≠ Dabc.heap.size) Dabcp) := (hzi.keep fun b hP => hbn.block b hP.2).mono fun b hP => ⟨hP.1, Nat.lt_of_lt_of_le hP.2 hbn.size, Nat.ne_of_lt hP.2⟩
          have qp := HPB.out
          have d0 : Dabcp.cell? ⟨Dabc.heap.size, 0, none⟩ = some (.int .u64 0) := blk_cell qp 0 _ rfl
          have d1 : Dabcp.cell? ⟨Dabc.heap.size, 1, none⟩ = some (.int .u64 0) := blk_cell qp 1 _ rfl
          have d2 : Dabcp.cell? ⟨Dabc.heap.size, 2, none⟩ = some (.slice none 0 0) := blk_cell qp 2 _ rfl
          have d3 : Dabcp.cell? ⟨Dabc.heap.size, 3, none⟩ = some (.slice none 0 0) := blk_cell qp 3 _ rfl
          have d4 : Dabcp.cell? ⟨Dabc.heap.size, 4, none⟩ = some (.slice none 0 0) := blk_cell qp 4 _ rfl
          have f0 := blk_frozen qp 0
          have f1 := blk_frozen qp 1
          have f2 := blk_frozen qp 2
          have f3 := blk_frozen qp 3
          have f4 := blk_frozen qp 4
          refine wpAnyH_ready (rs := [12]) (by kernel_rfl) (by simp) ?_
          refine AllReadyH.cons rfl (fun K hK => ?_) AllReadyH.nil
          go_simp
          obtain ⟨Y, hY⟩ : ∃ Y, set5 Dabcp (Dabc.heap.size) (.int .u64 un) (.int .u64 um) (.slice usA uss.length usc) (.slice ucA ucs.length ucc) (.slice uvA uvs.length uvc) = Y := ⟨_, rfl⟩
          change K _ (set5 Dabcp (Dabc.heap.size) (.int .u64 un) (.int .u64 um) (.slice usA uss.length usc) (.slice ucA ucs.length ucc) (.slice uvA uvs.length uvc))
          rw [hY]
          have HMID : Hid (MidP U0 o0 (.pointer (some ⟨Dabc.heap.size, 0, none⟩)) ev Y) := by rw [← hY]; exact midP_mk (z := .mk un um usA usc uss ucA ucc ucs uvA uvc uvs) qp hpb HZI.out hM HB.out hcase
          replace HB : Hid (Below U0.heap.size U0 Y) := by rw [← hY]; exact set5_bel HB.out hpb
          refine hK.out _ _ ?_ (fun hHeld => ?_)
          · exact HK.out _ HB.out
          clear hK K
          refine takeH 13 12 (v := ?t12_v) rfl rfl (by kernel_rfl) (by kernel_rfl) (by kernel_rfl) (fun _ _ _ h => h) (Or.inl ⟨by rfl, ?t12_h⟩) (by assumption) ?t12_r
          case t12_h => (intro w hSw; (try dsimp only at hSw); go_simp; try (with_reducible rfl))
          simp only [List.set_cons_zero, List.set_cons_succ]
          refine wpAnyH_done (by kernel_rfl) ?_ _
          refine NoPanic.normal ?_
          go_wp2_with fail
          go_meet
          exact ⟨HMID, rfl⟩
        case n8_b =>
          go_simp
          obtain ⟨Dabp, hDabp⟩ : ∃ Dabp, Dab.alloc (.cells #[.int .u64 0, .int .u64 0, .slice none 0 0, .slice none 0 0, .slice none 0 0] 29) = Dabp := ⟨_, rfl⟩
          rw [hDabp]
          have hbn : Below Dab.heap.size Dab Dabp := by rw [← hDabp]; exact allocB _ _
          have HPB : Hid (Blk Dabp Dab.heap.size 29 #[.int .u64 0, .int .u64 0, .slice none 0 0, .slice none 0 0, .slice none 0 0]) := by rw [← hDabp]; exact Blk.new _ _ _
          have hpb : U0.heap.size ≤ Dab.heap.size := HB.out.size
          replace HB : Hid (Below U0.heap.size U0 Dabp) := HB.out.trans (hbn.mono HB.out.size)
          clear hbn
          refine hK.out _ _ ?_ (fun hHeld => ?_)
          · exact HK.out _ HB.out
          clear hK K
          refine wpAnyH_ready (rs := [7]) (by kernel_rfl) (by simp) ?_
          refine AllReadyH.cons rfl (fun K hK => ?_) AllReadyH.nil
          go_simp
          have HLT : Hid (Dab.heap.size < Dabp.heap.size) := HPB.out.lt
          go_wp2_with (go_at_call 31; refine (HJ0.out _ (HW.out.trans (HB.out.mono HW.out.size))).mono ?_; rintro e Dabpc hr; (obtain ⟨⟨un, um, usA, usc, uss, ucA, ucc, ucs, uvA, uvc, uvs⟩, ev, rfl, hzi, hbn, hcase⟩ := retJ_case hr; simp only [val_mk]; clear hr))
          have hM : U0.heap.size ≤ Dabp.heap.size := HB.out.size
          replace HPB := Lib.hid (HPB.out.below hbn)
          replace HB : Hid (Below U0.heap.size U0 Dabpc) := HB.out.trans (hbn.mono HB.out.size)
          refine hK.out _ _ ?_ (fun hHeld => ?_)
          · exact HK.out _ HB.out
          clear hK K
          refine takeH 8 23 (v := ?t14_v) rfl rfl (by kernel_rfl) (by kernel_rfl) (by kernel_rfl) (fun _ _ _ h => h) (Or.inl ⟨by rfl, ?t14_h⟩) (by assumption) ?t14_r
          case t14_h => (intro w hSw; (try dsimp only at hSw); go_simp; try (with_reducible rfl))
          simp only [List.set_cons_zero, List.set_cons_succ]
          refine takeH 9 32 (v := ?t15_v) rfl rfl (by kernel_rfl) (by kernel_rfl) (by kernel_rfl) (fun _ _ _ h => h) (Or.inl ⟨by rfl, ?t15_h⟩) (by assumption) ?t15_r
          case t15_h => (intro w hSw; (try dsimp only at hSw); go_simp; try (with_reducible rfl))
          simp only [List.set_cons_zero, List.set_cons_succ]
          refine takeH 10 33 (v := ?t16_v) rfl rfl (by kernel_rfl) (by kernel_rfl) (by kernel_rfl) (fun _ _ _ h => h) (Or.inl ⟨by rfl, ?t16_h⟩) (by assumption) ?t16_r
          case t16_h => (intro w hSw; (try dsimp only at hSw); go_simp; try (with_reducible rfl))
          simp only [List.set_cons_zero, List.set_cons_succ]
          have HZI : Hid ((Vl.mk un um usA usc uss ucA ucc ucs uvA uvc uvs).Inp (fun b => Dabp.heap.size ≤ b ∧ b < Dabpc.heap.size ∧ b ≠ Dab.heap.size) Dabpc) := hzi.mono fun b hP => ⟨hP.1, hP.2, by have := hP.1; have := HLT.out; omega⟩
          have qp := HPB.out
          have d0 : Dabpc.cell? ⟨Dab.heap.size, 0, none⟩ = some (.int .u64 0) := blk_cell qp 0 _ rfl
          have d1 : Dabpc.cell? ⟨Dab.heap.size, 1, none⟩ = some (.int .u64 0) := blk_cell qp 1 _ rfl
          have d2 : Dabpc.cell? ⟨Dab.heap.size, 2, none⟩ = some (.slice none 0 0) := blk_cell qp 2 _ rfl
          have d3 : Dabpc.cell? ⟨Dab.heap.size, 3, none⟩ = some (.slice none 0 0) := blk_cell qp 3 _ rfl
          have d4 : Dabpc.cell? ⟨Dab.heap.size, 4, none⟩ = some (.slice none 0 0) := blk_cell qp 4 _ rfl
          have f0 := blk_frozen qp 0
          have f1 := blk_frozen qp 1
          have f2 := blk_frozen qp 2
          have f3 := blk_frozen qp 3
          have f4 := blk_frozen qp 4
          refine wpAnyH_ready (rs := [12]) (by kernel_rfl) (by simp) ?_
          refine AllReadyH.cons rfl (fun K hK => ?_) AllReadyH.nil
          go_simp
          obtain ⟨Y, hY⟩ : ∃ Y, set5 Dabpc (Dab.heap.size) (.int .u64 un) (.int .u64 um) (.slice usA uss.length usc) (.slice ucA ucs.length ucc) (.slice uvA uvs.length uvc) = Y := ⟨_, rfl⟩
          change K _ (set5 Dabpc (Dab.heap.size) (.int .u64 un) (.int .u64 um) (.slice usA uss.length usc) (.slice ucA ucs.length ucc) (.slice uvA uvs.length uvc))
          rw [hY]
          have HMID : Hid (MidP U0 o0 (.pointer (some ⟨Dab.heap.size, 0, none⟩)) ev Y) := by rw [← hY]; exact midP_mk (z := .mk un um usA usc uss ucA ucc ucs uvA uvc uvs) qp hpb HZI.out hM HB.out hcase
          replace HB : Hid (Below U0.heap.size U0 Y) := by rw [← hY]; exact set5_bel HB.out hpb
          refine hK.out _ _ ?_ (fun hHeld => ?_)
          · exact HK.out _ HB.out
          clear hK K
          refine takeH 13 12 (v := ?t17_v) rfl rfl (by kernel_rfl) (by kernel_rfl) (by kernel_rfl) (fun _ _ _ h => h) (Or.inl ⟨by rfl, ?t17_h⟩) (by assumption) ?t17_r
          case t17_h => (intro w hSw; (try dsimp only at hSw); go_simp; try (with_reducible rfl))
          simp only [List.set_cons_zero, List.set_cons_succ]
          refine wpAnyH_done (by kernel_rfl) ?_ _
          refine NoPanic.normal ?_
          go_wp2_with fail
          go_meet
          exact ⟨HMID, rfl⟩
      case n7_b =>
        go_simp
        obtain ⟨Dap, hDap⟩ : ∃ Dap, Da.alloc (.cells #[.int .u64 0, .int .u64 0, .slice none 0 0, .slice none 0 0, .slice none 0 0] 29) = Dap := ⟨_, rfl⟩
        rw [hDap]
        have hbn : Below Da.heap.size Da Dap := by rw [← hDap]; exact allocB _ _
        have HPB : Hid (Blk Dap Da.heap.size 29 #[.int .u64 0, .int .u64 0, .slice none 0 0, .slice none 0 0, .slice none 0 0]) := by rw [← hDap]; exact Blk.new _ _ _
        have hpb : U0.heap.size ≤ Da.heap.size := HB.out.size
        replace HB : Hid (Below U0.heap.size U0 Dap) := HB.out.trans (hbn.mono HB.out.size)
        clear hbn
        refine hK.out _ _ ?_ (fun hHeld => ?_)
        · exact HK.out _ HB.out
        clear hK K
        refine wpAnyH_ready (rs := [6]) (by kernel_rfl) (by simp) ?_
        refine AllReadyH.cons rfl (fun K hK => ?_) AllReadyH.nil
        go_simp
        go_wp2_with (go_at_call 64; refine (HY0.out _ (HW.out.trans (HB.out.mono HW.out.size))).mono ?_; rintro e Dapb ⟨rfl, _, hbn⟩)
        replace HPB := Lib.hid (HPB.out.below hbn)
        replace HB : Hid (Below U0.heap.size U0 Dapb) := HB.out.trans (hbn.mono HB.out.size)
        clear hbn
        refine hK.out _ _ ?_ (fun hHeld => ?_)
        · exact HK.out _ HB.out
        clear hK K
        refine wpAnyH_ready (rs := [7]) (by kernel_rfl) (by simp) ?_
        refine AllReadyH.cons rfl (fun K hK => ?_) AllReadyH.nil
        go_simp
        have HLT : Hid (Da.heap.size < Dapb.heap.size) := HPB.out.lt
        go_wp2_with (go_at_call 31; refine (HJ0.out _ (HW.out.trans (HB.out.mono HW.out.size))).mono ?_; rintro e Dapbc hr; (obtain ⟨⟨un, um, usA, usc, uss, ucA, ucc, ucs, uvA, uvc, uvs⟩, ev, rfl, hzi, hbn, hcase⟩ := retJ_case hr; simp only [val_mk]; clear hr))
        have hM : U0.heap.size ≤ Dapb.heap.size := HB.out.size
        replace HPB := Lib.hid (HPB.out.below hbn)
        replace HB : Hid (Below U0.heap.size U0 Dapbc) := HB.out.trans (hbn.mono HB.out.size)
        refine hK.out _ _ ?_ (fun hHeld => ?_)
        · exact HK.out _ HB.out
        clear hK K
        refine takeH 8 23 (v := ?t20_v) rfl rfl (by kernel_rfl) (by kernel_rfl) (by kernel_rfl) (fun _ _ _ h => h) (Or.inl ⟨by rfl, ?t20_h⟩) (by assumption) ?t20_r
        case t20_h => (intro w hSw; (try dsimp only at hSw); go_simp; try (with_reducible rfl))
        simp only [List.set_cons_zero, List.set_cons_succ]
        refine takeH 9 32 (v := ?t21_v) rfl rfl (by kernel_rfl) (by kernel_rfl) (by kernel_rfl) (fun _ _ _ h => h) (Or.inl ⟨by rfl, ?t21_h⟩) (by assumption) ?t21_r
        case t21_h => (intro w hSw; (try dsimp only at hSw); go_simp; try (with_reducible rfl))
        simp only [List.set_cons_zero, List.set_cons_succ]
        refine takeH 10 33 (v := ?t22_v) rfl rfl (by kernel_rfl) (by kernel_rfl) (by kernel_rfl) (fun _ _ _ h => h) (Or.inl ⟨by rfl, ?t22_h⟩) (by assumption) ?t22_r
        case t22_h => (intro w hSw; (try dsimp only at hSw); go_simp; try (with_reducible rfl))
        simp only [List.set_cons_zero, List.set_cons_succ]
        have HZI : Hid ((Vl.mk un um usA usc uss ucA ucc ucs uvA uvc uvs).Inp (fun b => Dapb.heap.size ≤ b ∧ b < Dapbc.heap.size ∧ b ≠ Da.heap.size) Dapbc) := hzi.mono fun b hP => ⟨hP.1, hP.2, by have := hP.1; have := HLT.out; omega⟩
        have qp := HPB.out
        have d0 : Dapbc.cell? ⟨Da.heap.size, 0, none⟩ = some (.int .u64 0) := blk_cell qp 0 _ rfl
        have d1 : Dapbc.cell? ⟨Da.heap.size, 1, none⟩ = some (.int .u64 0) := blk_cell qp 1 _ rfl
        have d2 : Dapbc.cell? ⟨Da.heap.size, 2, none⟩ = some (.slice none 0 0) := blk_cell qp 2 _ rfl
        have d3 : Dapbc.cell? ⟨Da.heap.size, 3, none⟩ = some (.slice none 0 0) := blk_cell qp 3 _ rfl
        have d4 : Dapbc.cell? ⟨Da.heap.size, 4, none⟩ = some (.slice none 0 0) := blk_cell qp 4 _ rfl
        have f0 := blk_frozen qp 0
        have f1 := blk_frozen qp 1
        have f2 := blk_frozen qp 2
        have f3 := blk_frozen qp 3
        have f4 := blk_frozen qp 4
        refine wpAnyH_ready (rs := [12]) (by kernel_rfl) (by simp) ?_
        refine AllReadyH.cons rfl (fun K hK => ?_) AllReadyH.nil
        go_simp
        obtain ⟨Y, hY⟩ : ∃ Y, set5 Dapbc (Da.heap.size) (.int .u64 un) (.int .u64 um) (.slice usA uss.length usc) (.slice ucA ucs.length ucc) (.slice uvA uvs.length uvc) = Y := ⟨_, rfl⟩
        change K _ (set5 Dapbc (Da.heap.size) (.int .u64 un) (.int .u64 um) (.slice usA uss.length usc) (.slice ucA ucs.length ucc) (.slice uvA uvs.length uvc))
        rw [hY]
        have HMID : Hid (MidP U0 o0 (.pointer (some ⟨Da.heap.size, 0, none⟩)) ev Y) := by rw [← hY]; exact midP_mk (z := .mk un um usA usc uss ucA ucc ucs uvA uvc uvs) qp hpb HZI.out hM HB.out hcase
        replace HB : Hid (Below U0.heap.size U0 Y) := by rw [← hY]; exact set5_bel HB.out hpb
        refine hK.out _ _ ?_ (fun hHeld => ?_)
        · exact HK.out _ HB.out
        clear hK K
        refine takeH 13 12 (v := ?t23_v) rfl rfl (by kernel_rfl) (by kernel_rfl) (by kernel_rfl) (fun _ _ _ h => h) (Or.inl ⟨by rfl, ?t23_h⟩) (by assumption) ?t23_r
        case t23_h => (intro w hSw; (try dsimp only at hSw); go_simp; try (with_reducible rfl))
        simp only [List.set_cons_zero, List.set_cons_succ]
        refine wpAnyH_done (by kernel_rfl) ?_ _
        refine NoPanic.normal ?_
        go_wp2_with fail
        go_meet
        exact ⟨HMID, rfl⟩
    case n6_b =>
      go_simp
      obtain ⟨Dp, hDp⟩ : ∃ Dp, D.alloc (.cells #[.int .u64 0, .int .u64 0, .slice none 0 0, .slice none 0 0, .slice none 0 0] 29) = Dp := ⟨_, rfl⟩
      rw [hDp]
      have hbn : Below D.heap.size D Dp := by rw [← hDp]; exact allocB _ _
      have HPB : Hid (Blk Dp D.heap.size 29 #[.int .u64 0, .int .u64 0, .slice none 0 0, .slice none 0 0, .slice none 0 0]) := by rw [← hDp]; exact Blk.new _ _ _
      have hpb : U0.heap.size ≤ D.heap.size := HB.out.size
      replace HB : Hid (Below U0.heap.size U0 Dp) := HB.out.trans (hbn.mono HB.out.size)
      clear hbn
      refine hK.out _ _ ?_ (fun hHeld => ?_)
      · exact HK.out _ HB.out
      clear hK K
      refine wpAnyH_ready (rs := [3]) (by kernel_rfl) (by simp) ?_
      refine AllReadyH.cons rfl (fun K hK => ?_) AllReadyH.nil
      go_simp
      go_wp2_with (go_at_call 64; refine (HX0.out _ (HW.out.trans (HB.out.mono HW.out.size))).mono ?_; rintro e Dpa ⟨rfl, _, hbn⟩)
      replace HPB := Lib.hid (HPB.out.below hbn)
      replace HB : Hid (Below U0.heap.size U0 Dpa) := HB.out.trans (hbn.mono HB.out.size)
      clear hbn
      refine hK.out _ _ ?_ (fun hHeld => ?_)
      · exact HK.out _ HB.out
      clear hK K
      refine wpAnyH_ready (rs := [6]) (by kernel_rfl) (by simp) ?_
      refine AllReadyH.cons rfl (fun K hK => ?_) AllReadyH.nil
      go_simp
      go_wp2_with (go_at_call 64; refine (HY0.out _ (HW.out.trans (HB.out.mono HW.out.size))).mono ?_; rintro e Dpab ⟨rfl, _, hbn⟩)
      replace HPB := Lib.hid (HPB.out.below hbn)
      replace HB : Hid (Below U0.heap.size U0 Dpab) := HB.out.trans (hbn.mono HB.out.size)
      clear hbn
      refine hK.out _ _ ?_ (fun hHeld => ?_)
      · exact HK.out _ HB.out
      clear hK K
      refine wpAnyH_ready (rs := [7]) (by kernel_rfl) (by simp) ?_
      refine AllReadyH.cons rfl (fun K hK => ?_) AllReadyH.nil
      go_simp
      have HLT : Hid (D.heap.size < Dpab.heap.size) := HPB.out.lt
      go_wp2_with (go_at_call 31; refine (HJ0.out _ (HW.out.trans (HB.out.mono HW.out.size))).mono ?_; rintro e Dpabc hr; (obtain ⟨⟨un, um, usA, usc, uss, ucA, ucc, ucs, uvA, uvc, uvs⟩, ev, rfl, hzi, hbn, hcase⟩ := retJ_case hr; simp only [val_mk]; clear hr))
      have hM : U0.heap.size ≤ Dpab.heap.size := HB.out.size
      replace HPB := Lib.hid (HPB.out.below hbn)
      replace HB : Hid (Below U0.heap.size U0 Dpabc) := HB.out.trans (hbn.mono HB.out.size)
      refine hK.out _ _ ?_ (fun hHeld => ?_)
      · exact HK.out _ HB.out
      clear hK K
      refine takeH 8 23 (v := ?t27_v) rfl rfl (by kernel_rfl) (by kernel_rfl) (by kernel_rfl) (fun _ _ _ h => h) (Or.inl ⟨by rfl, ?t27_h⟩) (by assumption) ?t27_r
      case t27_h => (intro w hSw; (try dsimp only at hSw); go_simp; try (with_reducible rfl))
      simp only [List.set_cons_zero, List.set_cons_succ]
      refine takeH 9 32 (v := ?t28_v) rfl rfl (by kernel_rfl) (by kernel_rfl) (by kernel_rfl) (fun _ _ _ h => h) (Or.inl ⟨by rfl, ?t28_h⟩) (by assumption) ?t28_r
      case t28_h => (intro w hSw; (try dsimp only at hSw); go_simp; try (with_reducible rfl))
      simp only [List.set_cons_zero, List.set_cons_succ]
      refine takeH 10 33 (v := ?t29_v) rfl rfl (by kernel_rfl) (by kernel_rfl) (by kernel_rfl) (fun _ _ _ h => h) (Or.inl ⟨by rfl, ?t29_h⟩) (by assumption) ?t29_r
      case t29_h => (intro w hSw; (try dsimp only at hSw); go_simp; try (with_reducible rfl))
      simp only [List.set_cons_zero, List.set_cons_succ]
      have HZI : Hid ((Vl.mk un um usA usc uss ucA ucc ucs uvA uvc uvs).Inp (fun b => Dpab.heap.size ≤ b ∧ b < Dpabc.heap.size ∧ b ≠ D.heap.size) Dpabc) := hzi.mono fun b hP => ⟨hP.1, hP.2, by have := hP.1; have := HLT.out; omega⟩
      have qp := HPB.out
      have d0 : Dpabc.cell? ⟨D.heap.size, 0, none⟩ = some (.int .u64 0) := blk_cell qp 0 _ rfl
      have d1 : Dpabc.cell? ⟨D.heap.size, 1, none⟩ = some (.int .u64 0) := blk_cell qp 1 _ rfl
      have d2 : Dpabc.cell? ⟨D.heap.size, 2, none⟩ = some (.slice none 0 0) := blk_cell qp 2 _ rfl
      have d3 : Dpabc.cell? ⟨D.heap.size, 3, none⟩ = some (.slice none 0 0) := blk_cell qp 3 _ rfl
      have d4 : Dpabc.cell? ⟨D.heap.size, 4, none⟩ = some (.slice none 0 0) := blk_cell qp 4 _ rfl
      have f0 := blk_frozen qp 0
      have f1 := blk_frozen qp 1
      have f2 := blk_frozen qp 2
      have f3 := blk_frozen qp 3
      have f4 := blk_frozen qp 4
      refine wpAnyH_ready (rs := [12]) (by kernel_rfl) (by simp) ?_
      refine AllReadyH.cons rfl (fun K hK => ?_) AllReadyH.nil
      go_simp
      obtain ⟨Y, hY⟩ : ∃ Y, set5 Dpabc (D.heap.size) (.int .u64 un) (.int .u64 um) (.slice usA uss.length usc) (.slice ucA ucs.length ucc) (.slice uvA uvs.length uvc) = Y := ⟨_, rfl⟩
      change K _ (set5 Dpabc (D.heap.size) (.int .u64 un) (.int .u64 um) (.slice usA uss.length usc) (.slice ucA ucs.length ucc) (.slice uvA uvs.length uvc))
      rw [hY]
      have HMID : Hid (MidP U0 o0 (.pointer (some ⟨D.heap.size, 0, none⟩)) ev Y) := by rw [← hY]; exact midP_mk (z := .mk un um usA usc uss ucA ucc ucs uvA uvc uvs) qp hpb HZI.out hM HB.out hcase
      replace HB : Hid (Below U0.heap.size U0 Y) := by rw [← hY]; exact set5_bel HB.out hpb
      refine hK.out _ _ ?_ (fun hHeld => ?_)
      · exact HK.out _ HB.out
      clear hK K
      refine takeH 13 12 (v := ?t30_v) rfl rfl (by kernel_rfl) (by kernel_rfl) (by kernel_rfl) (fun _ _ _ h => h) (Or.inl ⟨by rfl, ?t30_h⟩) (by assumption) ?t30_r
      case t30_h => (intro w hSw; (try dsimp only at hSw); go_simp; try (with_reducible rfl))
      simp only [List.set_cons_zero, List.set_cons_succ]
      refine wpAnyH_done (by kernel_rfl) ?_ _
      refine NoPanic.normal ?_
      go_wp2_with fail
      go_meet
      exact ⟨HMID, rfl⟩
  obtain ⟨⟨pb, ⟨un, um, usA, usc, uss, ucA, ucc, ucs, uvA, uvc, uvs⟩, rfl, hpb, hqp, hzi, hbc, hcase⟩, rfl⟩ := hcut
  simp only [V4.Vl.n, V4.Vl.m, V4.Vl.s1, V4.Vl.c1, V4.Vl.v1] at hqp
  obtain ⟨C0, hC0⟩ : ∃ C0, wc = C0 := ⟨_, rfl⟩
  rw [hC0] at hqp hzi hbc
  rw [hC0]
  clear hC0
  have BC0 : Below w.heap.size w C0 := BU0.trans (hbc.mono BU0.size)
  replace qx := qx.below hbc
  replace qy := qy.below hbc
  replace qr := qr.below hbc
  replace qm := qm.below hbc
  clear qs
  have hsC0 := hbc.size
  rcases hcase with ⟨ho, rfl⟩ | ⟨ho, rfl⟩
  · have hev : errV 13 = .iface 51 (.int .i64 13) := rfl
    rw [hev]
    have d0 : C0.cell? ⟨w.heap.size + 1 + 1, 0, none⟩ = some (.int .u64 0) := blk_cell qr 0 _ rfl
    have d1 : C0.cell? ⟨w.heap.size + 1 + 1, 1, none⟩ = some (.int .u64 0) := blk_cell qr 1 _ rfl
    have d2 : C0.cell? ⟨w.heap.size + 1 + 1, 2, none⟩ = some (.slice none 0 0) := blk_cell qr 2 _ rfl
    have d3 : C0.cell? ⟨w.heap.size + 1 + 1, 3, none⟩ = some (.slice none 0 0) := blk_cell qr 3 _ rfl
    have d4 : C0.cell? ⟨w.heap.size + 1 + 1, 4, none⟩ = some (.slice none 0 0) := blk_cell qr 4 _ rfl
    have f0 := blk_frozen qr 0
    have f1 := blk_frozen qr 1
    have f2 := blk_frozen qr 2
    have f3 := blk_frozen qr 3
    have f4 := blk_frozen qr 4
    go_wp2_with fail
    refine bodyPost_ret (results_cv rfl _ _ (w.heap.size + 1 + 1) (.int .u64 0) (.int .u64 0) (.slice none 0 0) (.slice none 0 0) (.slice none 0 0) rfl (blk_cell (set5_blk qr) 0 _ rfl) (blk_cell (set5_blk qr) 1 _ rfl) (blk_cell (set5_blk qr) 2 _ rfl) (blk_cell (set5_blk qr) 3 _ rfl) (blk_cell (set5_blk qr) 4 _ rfl)) rfl ?_
    refine .inr ⟨?_, rfl, set5_bel BC0 (by omega)⟩
    rw [HPE.out, ho]
    rfl
  have HO0 := Lib.hid ho
  clear ho
  have a0 : C0.cell? ⟨pb, 0, none⟩ = some (.int .u64 un) := blk_cell hqp 0 _ rfl
  have a1 : C0.cell? ⟨pb, 1, none⟩ = some (.int .u64 um) := blk_cell hqp 1 _ rfl
  have a2 : C0.cell? ⟨pb, 2, none⟩ = some (.slice usA uss.length usc) := blk_cell hqp 2 _ rfl
  have a3 : C0.cell? ⟨pb, 3, none⟩ = some (.slice ucA ucs.length ucc) := blk_cell hqp 3 _ rfl
  have a4 : C0.cell? ⟨pb, 4, none⟩ = some (.slice uvA uvs.length uvc) := blk_cell hqp 4 _ rfl
  have m0 : C0.cell? ⟨w.heap.size + 1 + 1 + 1, 0, none⟩ = some (.int .u64 0) := blk_cell qm 0 _ rfl
  have m1 : C0.cell? ⟨w.heap.size + 1 + 1 + 1, 1, none⟩ = some (.int .u64 0) := blk_cell qm 1 _ rfl
  have m2 : C0.cell? ⟨w.heap.size + 1 + 1 + 1, 2, none⟩ = some (.slice none 0 0) := blk_cell qm 2 _ rfl
  have m3 : C0.cell? ⟨w.heap.size + 1 + 1 + 1, 3, none⟩ = some (.slice none 0 0) := blk_cell qm 3 _ rfl
  have m4 : C0.cell? ⟨w.heap.size + 1 + 1 + 1, 4, none⟩ = some (.slice none 0 0) := blk_cell qm 4 _ rfl
  have m5 : C0.cell? ⟨w.heap.size + 1 + 1 + 1, 5, none⟩ = some (.int .u64 0) := blk_cell qm 5 _ rfl
  have m6 : C0.cell? ⟨w.heap.size + 1 + 1 + 1, 6, none⟩ = some (.int .u64 0) := blk_cell qm 6 _ rfl
  have m7 : C0.cell? ⟨w.heap.size + 1 + 1 + 1, 7, none⟩ = some (.slice none 0 0) := blk_cell qm 7 _ rfl
  have m8 : C0.cell? ⟨w.heap.size + 1 + 1 + 1, 8, none⟩ = some (.slice none 0 0) := blk_cell qm 8 _ rfl
  have m9 : C0.cell? ⟨w.heap.size + 1 + 1 + 1, 9, none⟩ = some (.slice none 0 0) := blk_cell qm 9 _ rfl
  have g0 := blk_frozen qm 0
  have g1 := blk_frozen qm 1
  have g2 := blk_frozen qm 2
  have g3 := blk_frozen qm 3
  have g4 := blk_frozen qm 4
  obtain ⟨E0, hE0⟩ : ∃ E0, set5 C0 (w.heap.size + 1 + 1 + 1) (.int .u64 un) (.int .u64 um) (.slice usA uss.length usc) (.slice ucA ucs.length ucc) (.slice uvA uvs.length uvc) = E0 := ⟨_, rfl⟩
  have BE0 : Below w.heap.size w E0 := by rw [← hE0]; exact set5_bel BC0 (by omega)
  have hsE0 : E0.heap.size ≤ C0.heap.size ∧ C0.heap.size ≤ E0.heap.size := by rw [← hE0]; exact ⟨Nat.le_of_eq set5_size, Nat.le_of_eq set5_size.symm⟩
  have qm2 : Blk E0 (w.heap.size + 1 + 1 + 1) 29 #[.int .u64 un, .int .u64 um, .slice usA uss.length usc, .slice ucA ucs.length ucc, .slice uvA uvs.length uvc, .int .u64 0, .int .u64 0, .slice none 0 0, .slice none 0 0, .slice none 0 0] := by rw [← hE0]; exact set10_blk qm
  replace qx : Blk E0 (w.heap.size) 29 #[.int .u64 n, .int .u64 m, .slice sA ss.length sc, .slice cA cs.length cc, .slice vA vs.length vc] := by rw [← hE0]; exact (set5_low (by omega)).trans qx
  replace qy : Blk E0 (w.heap.size + 1) 29 #[.int .u64 n', .int .u64 m', .slice sA' ss'.length sc', .slice cA' cs'.length cc', .slice vA' vs'.length vc'] := by rw [← hE0]; exact (set5_low (by omega)).trans qy
  replace qr : Blk E0 (w.heap.size + 1 + 1) 29 #[.int .u64 0, .int .u64 0, .slice none 0 0, .slice none 0 0, .slice none 0 0] := by rw [← hE0]; exact (set5_low (by omega)).trans qr
  have HN0 : Hid ((Vl.mk un um usA usc uss ucA ucc ucs uvA uvc uvs).Inp (fun b => w.heap.size + 4 ≤ b ∧ b < E0.heap.size) E0) := by
    refine (hzi.keep fun b hP => ?_).mono fun b hP => ⟨by have := hP.1; omega, by have := hP.2.1; omega⟩
    rw [← hE0]; exact set5_low (by have := hP.1; omega)
  have hE : set5 C0 (w.heap.size + 1 + 1 + 1) (.int .u64 un) (.int .u64 um) (.slice usA uss.length usc) (.slice ucA ucs.length ucc) (.slice uvA uvs.length uvc) = E0 := hE0
  unfold set5 at hE
  clear hE0 qm hzi hqp
  go_wp2_with fail
  clear hE a0 a1 a2 a3 a4 m0 m1 m2 m3 m4 m5 m6 m7 m8 m9 g0 g1 g2 g3 g4
  have HU0 := HN0
  clear HN0
  have qm := qm2
  clear qm2
  rw [rounds_succ]
  have cr2 : E0.cell? ⟨rb, ro + 2, none⟩ = some (.int .i64 bk) := (BE0.cell (p := ⟨rb, ro + 2, none⟩) hrb).trans r2
  have cr3 : E0.cell? ⟨rb, ro + 2 + 1, none⟩ = some (.slice bA bl.length bc) := (BE0.cell (p := ⟨rb, ro + 2 + 1, none⟩) hrb).trans r3
  obtain ⟨U1, hU1⟩ : ∃ U1, E0.alloc (.cells #[.int .i64 bk, .slice bA bl.length bc] 37) = U1 := ⟨_, rfl⟩
  have bU1 : Below E0.heap.size E0 U1 := by rw [← hU1]; exact allocB _ _
  have BU1 : Below w.heap.size w U1 := BE0.trans (bU1.mono BE0.size)
  have qs : Blk U1 E0.heap.size 37 #[.int .i64 bk, .slice bA bl.length bc] := by rw [← hU1]; exact Blk.new _ _ _
  replace qx := qx.below bU1
  replace qy := qy.below bU1
  replace qr := qr.below bU1
  replace qm := qm.below bU1
  replace HU0 : Hid ((Vl.mk un um usA usc uss ucA ucc ucs uvA uvc uvs).Inp (fun b => w.heap.size + 4 ≤ b ∧ b < U1.heap.size) U1) := (HU0.out.keep fun b hP => bU1.block b hP.2).mono fun b hP => ⟨hP.1, Nat.lt_of_lt_of_le hP.2 bU1.size⟩
  have hsU1 : w.heap.size + 4 ≤ E0.heap.size := by have := bU1.size; omega
  have hslU1 : E0.heap.size < U1.heap.size := qs.lt
  go_upto_region 5 with fail
  clear cr2 cr3 hU1
  go_cut [11, 12, 18] from 18 to 42 (fun s11 s12 s18 wx => Hid (MidP U1 o1 s11 s12 wx) ∧ s18 = .int .i64 1)
  case first =>
    have lb0 : w.heap.size < U1.heap.size := by omega
    have lb1 : w.heap.size + 1 < U1.heap.size := by omega
    have lbs : E0.heap.size < U1.heap.size := by omega
    have HK : Hid (∀ W, Below U1.heap.size U1 W → (fun w' => w'.cell? ⟨E0.heap.size, 0, none⟩ = some (.int .i64 bk) ∧ w'.cell? ⟨E0.heap.size, 1, none⟩ = some (.slice bA bl.length bc) ∧ w'.cell? ⟨w.heap.size, 0, none⟩ = some (.int .u64 n) ∧ w'.cell? ⟨w.heap.size, 1, none⟩ = some (.int .u64 m) ∧ w'.cell? ⟨w.heap.size, 2, none⟩ = some (.slice sA ss.length sc) ∧ w'.cell? ⟨w.heap.size, 3, none⟩ = some (.slice cA cs.length cc) ∧ w'.cell? ⟨w.heap.size, 4, none⟩ = some (.slice vA vs.length vc) ∧ w'.cell? ⟨w.heap.size + 1, 0, none⟩ = some (.int .u64 n') ∧ w'.cell? ⟨w.heap.size + 1, 1, none⟩ = some (.int .u64 m') ∧ w'.cell? ⟨w.heap.size + 1, 2, none⟩ = some (.slice sA' ss'.length sc') ∧ w'.cell? ⟨w.heap.size + 1, 3, none⟩ = some (.slice cA' cs'.length cc') ∧ w'.cell? ⟨w.heap.size + 1, 4, none⟩ = some (.slice vA' vs'.length vc')) W) := fun W hW => ⟨(hW.cell (p := ⟨E0.heap.size, 0, none⟩) lbs).trans (blk_cell qs 0 _ rfl), (hW.cell (p := ⟨E0.heap.size, 1, none⟩) lbs).trans (blk_cell qs 1 _ rfl), (hW.cell (p := ⟨w.heap.size, 0, none⟩) lb0).trans (blk_cell qx 0 _ rfl), (hW.cell (p := ⟨w.heap.size, 1, none⟩) lb0).trans (blk_cell qx 1 _ rfl), (hW.cell (p := ⟨w.heap.size, 2, none⟩) lb0).trans (blk_cell qx 2 _ rfl), (hW.cell (p := ⟨w.heap.size, 3, none⟩) lb0).trans (blk_cell qx 3 _ rfl), (hW.cell (p := ⟨w.heap.size, 4, none⟩) lb0).trans (blk_cell qx 4 _ rfl), (hW.cell (p := ⟨w.heap.size + 1, 0, none⟩) lb1).trans (blk_cell qy 0 _ rfl), (hW.cell (p := ⟨w.heap.size + 1, 1, none⟩) lb1).trans (blk_cell qy 1 _ rfl), (hW.cell (p := ⟨w.heap.size + 1, 2, none⟩) lb1).trans (blk_cell qy 2 _ rfl), (hW.cell (p := ⟨w.heap.size + 1, 3, none⟩) lb1).trans (blk_cell qy 3 _ rfl), (hW.cell (p := ⟨w.heap.size + 1, 4, none⟩) lb1).trans (blk_cell qy 4 _ rfl)⟩
    have HW : Hid (Below w.heap.size w U1) := BU1
    refine wp_region_noPanic ?_
    refine wp_region_held_drew (S := (fun w' => w'.cell? ⟨E0.heap.size, 0, none⟩ = some (.int .i64 bk) ∧ w'.cell? ⟨E0.heap.size, 1, none⟩ = some (.slice bA bl.length bc) ∧ w'.cell? ⟨w.heap.size, 0, none⟩ = some (.int .u64 n) ∧ w'.cell? ⟨w.heap.size, 1, none⟩ = some (.int .u64 m) ∧ w'.cell? ⟨w.heap.size, 2, none⟩ = some (.slice sA ss.length sc) ∧ w'.cell? ⟨w.heap.size, 3, none⟩ = some (.slice cA cs.length cc) ∧ w'.cell? ⟨w.heap.size, 4, none⟩ = some (.slice vA vs.length vc) ∧ w'.cell? ⟨w.heap.size + 1, 0, none⟩ = some (.int .u64 n') ∧ w'.cell? ⟨w.heap.size + 1, 1, none⟩ = some (.int .u64 m') ∧ w'.cell? ⟨w.heap.size + 1, 2, none⟩ = some (.slice sA' ss'.length sc') ∧ w'.cell? ⟨w.heap.size + 1, 3, none⟩ = some (.slice cA' cs'.length cc') ∧ w'.cell? ⟨w.heap.size + 1, 4, none⟩ = some (.slice vA' vs'.length vc'))) (by kernel_rfl) ?_ (fun hHeld => ?_)
    · exact HK.out _ (Below.refl _ _).drew
    obtain ⟨D, hD⟩ : ∃ D, U1.drew = D := ⟨_, rfl⟩
    rw [hD] at hHeld ⊢
    have HB : Hid (Below U1.heap.size U1 D) := by rw [← hD]; exact (Below.refl _ _).drew
    clear hD
    refine takeH 0 24 (v := ?t31_v) rfl rfl (by kernel_rfl) (by kernel_rfl) (by kernel_rfl) (fun _ _ _ h => h) (Or.inl ⟨by rfl, ?t31_h⟩) (by assumption) ?t31_r
    case t31_h => (intro w hSw; (try dsimp only at hSw); go_simp; try (with_reducible rfl))
    simp only [List.set_cons_zero, List.set_cons_succ]
    refine takeH 1 25 (v := ?t32_v) rfl rfl (by kernel_rfl) (by kernel_rfl) (by kernel_rfl) (fun _ _ _ h => h) (Or.inl ⟨by rfl, ?t32_h⟩) (by assumption) ?t32_r
    case t32_h => (intro w hSw; (try dsimp only at hSw); go_simp; try (with_reducible rfl))
    simp only [List.set_cons_zero, List.set_cons_succ]
    refine takeH 2 26 (v := ?t33_v) rfl rfl (by kernel_rfl) (by kernel_rfl) (by kernel_rfl) (fun _ _ _ h => h) (Or.inl ⟨by rfl, ?t33_h⟩) (by assumption) ?t33_r
    case t33_h => (intro w hSw; (try dsimp only at hSw); go_simp; try (with_reducible rfl))
    simp only [List.set_cons_zero, List.set_cons_succ]
    refine takeH 4 28 (v := ?t34_v) rfl rfl (by kernel_rfl) (by kernel_rfl) (by kernel_rfl) (fun _ _ _ h => h) (Or.inl ⟨by rfl, ?t34_h⟩) (by assumption) ?t34_r
    case t34_h => (intro w hSw; (try dsimp only at hSw); go_simp; try (with_reducible rfl))
    simp only [List.set_cons_zero, List.set_cons_succ]
    refine takeH 5 29 (v := ?t35_v) rfl rfl (by kernel_rfl) (by kernel_rfl) (by kernel_rfl) (fun _ _ _ h => h) (Or.inl ⟨by rfl, ?t35_h⟩) (by assumption) ?t35_r
    case t35_h => (intro w hSw; (try dsimp only at hSw); go_simp; try (with_reducible rfl))
    simp only [List.set_cons_zero, List.set_cons_succ]
    refine wpAnyH_ready (rs := [3, 11]) (by kernel_rfl) (by simp) ?_
    refine AllReadyH.cons rfl (fun K hK => ?n36_a) (AllReadyH.cons rfl (fun K hK => ?n36_b) AllReadyH.nil)
    case n36_a =>
      go_simp
      go_wp2_with (go_at_call 64; refine (HX1.out _ (HW.out.trans (HB.out.mono HW.out.size))).mono ?_; rintro e Da ⟨rfl, _, hbn⟩)
      replace HB : Hid (Below U1.heap.size U1 Da) := HB.out.trans (hbn.mono HB.out.size)
      clear hbn
      refine hK.out _ _ ?_ (fun hHeld => ?_)
      · exact HK.out _ HB.out
      clear hK K
      refine wpAnyH_ready (rs := [6, 11]) (by kernel_rfl) (by simp) ?_
      refine AllReadyH.cons rfl (fun K hK => ?n37_a) (AllReadyH.cons rfl (fun K hK => ?n37_b) AllReadyH.nil)
      case n37_a =>
        go_simp
        go_wp2_with (go_at_call 64; refine (HY1.out _ (HW.out.trans (HB.out.mono HW.out.size))).mono ?_; rintro e Dab ⟨rfl, _, hbn⟩)
        replace HB : Hid (Below U1.heap.size U1 Dab) := HB.out.trans (hbn.mono HB.out.size)
        clear hbn
        refine hK.out _ _ ?_ (fun hHeld => ?_)
        · exact HK.out _ HB.out
        clear hK K
        refine wpAnyH_ready (rs := [7, 11]) (by kernel_rfl) (by simp) ?_
        refine AllReadyH.cons rfl (fun K hK => ?n38_a) (AllReadyH.cons rfl (fun K hK => ?n38_b) AllReadyH.nil)
        case n38_a =>
          go_simp
          go_wp2_with (go_at_call 31; refine (HJ1.out _ (HW.out.trans (HB.out.mono HW.out.size))).mono ?_; rintro e Dabc hr; (obtain ⟨⟨zn, zm, zsA, zsc, zss, zcA, zcc, zcs, zvA, zvc, zvs⟩, ev, rfl, hzi, hbn, hcase⟩ := retJ_case hr; simp only [val_mk]; clear hr))
          have hM : U1.heap.size ≤ Dab.heap.size := HB.out.size
          replace HB : Hid (Below U1.heap.size U1 Dabc) := HB.out.trans (hbn.mono HB.out.size)
          refine hK.out _ _ ?_ (fun hHeld => ?_)
          · exact HK.out _ HB.out
          clear hK K
          refine takeH 8 23 (v := ?t39_v) rfl rfl (by kernel_rfl) (by kernel_rfl) (by kernel_rfl) (fun _ _ _ h => h) (Or.inl ⟨by rfl, ?t39_h⟩) (by assumption) ?t39_r
          case t39_h => (intro w hSw; (try dsimp only at hSw); go_simp; try (with_reducible rfl))
          simp only [List.set_cons_zero, List.set_cons_succ]
          refine takeH 9 32 (v := ?t40_v) rfl rfl (by kernel_rfl) (by kernel_rfl) (by kernel_rfl) (fun _ _ _ h => h) (Or.inl ⟨by rfl, ?t40_h⟩) (by assumption) ?t40_r
          case t40_h => (intro w hSw; (try dsimp only at hSw); go_simp; try (with_reducible rfl))
          simp only [List.set_cons_zero, List.set_cons_succ]
          refine takeH 10 33 (v := ?t41_v) rfl rfl (by kernel_rfl) (by kernel_rfl) (by kernel_rfl) (fun _ _ _ h => h) (Or.inl ⟨by rfl, ?t41_h⟩) (by assumption) ?t41_r
          case t41_h => (intro w hSw; (try dsimp only at hSw); go_simp; try (with_reducible rfl))
          simp only [List.set_cons_zero, List.set_cons_succ]
          refine wpAnyH_ready (rs := [11]) (by kernel_rfl) (by simp) ?_
          refine AllReadyH.cons rfl (fun K hK => ?_) AllReadyH.nil
          go_simp
          obtain ⟨Dabcp, hDabcp⟩ : ∃ Dabcp, Dabc.alloc (.cells #[.int .u64 0, .int .u64 0, .slice none 0 0, .slice none 0 0, .slice none 0 0] 29) = Dabcp := ⟨_, rfl⟩
          rw [hDabcp]
          have hbn : Below Dabc.heap.size Dabc Dabcp := by rw [← hDabcp]; exact allocB _ _
          have HPB : Hid (Blk Dabcp Dabc.heap.size 29 #[.int .u64 0, .int .u64 0, .slice none 0 0, .slice none 0 0, .slice none 0 0]) := by rw [← hDabcp]; exact Blk.new _ _ _
          have hpb : U1.heap.size ≤ Dabc.heap.size := HB.out.size
          replace HB : Hid (Below U1.heap.size U1 Dabcp) := HB.out.trans (hbn.mono HB.out.size)
          refine hK.out _ _ ?_ (fun hHeld => ?_)
          · exact HK.out _ HB.out
          clear hK K
          have HZI : Hid ((Vl.mk zn zm zsA zsc zss zcA zcc zcs zvA zvc zvs).Inp (fun b => Dab.heap.size ≤ b ∧ b < Dabcp.heap.size ∧ b ≠ Dabc.heap.size) Dabcp) := (hzi.keep fun b hP => hbn.block b hP.2).mono fun b hP => ⟨hP.1, Nat.lt_of_lt_of_le hP.2 hbn.size, Nat.ne_of_lt hP.2⟩
          have qp := HPB.out
          have d0 : Dabcp.cell? ⟨Dabc.heap.size, 0, none⟩ = some (.int .u64 0) := blk_cell qp 0 _ rfl
          have d1 : Dabcp.cell? ⟨Dabc.heap.size, 1, none⟩ = some (.int .u64 0) := blk_cell qp 1 _ rfl
          have d2 : Dabcp.cell? ⟨Dabc.heap.size, 2, none⟩ = some (.slice none 0 0) := blk_cell qp 2 _ rfl
          have d3 : Dabcp.cell? ⟨Dabc.heap.size, 3, none⟩ = some (.slice none 0 0) := blk_cell qp 3 _ rfl
          have d4 : Dabcp.cell? ⟨Dabc.heap.size, 4, none⟩ = some (.slice none 0 0) := blk_cell qp 4 _ rfl
          have f0 := blk_frozen qp 0
          have f1 := blk_frozen qp 1
          have f2 := blk_frozen qp 2
          have f3 := blk_frozen qp 3
          have f4 := blk_frozen qp 4
          refine wpAnyH_ready (rs := [12]) (by kernel_rfl) (by simp) ?_
          refine AllReadyH.cons rfl (fun K hK => ?_) AllReadyH.nil
          go_simp
          obtain ⟨Y, hY⟩ : ∃ Y, set5 Dabcp (Dabc.heap.size) (.int .u64 zn) (.int .u64 zm) (.slice zsA zss.length zsc) (.slice zcA zcs.length zcc) (.slice zvA zvs.length zvc) = Y := ⟨_, rfl⟩
          change K _ (set5 Dabcp (Dabc.heap.size) (.int .u64 zn) (.int .u64 zm) (.slice zsA zss.length zsc) (.slice zcA zcs.length zcc) (.slice zvA zvs.length zvc))
          rw [hY]
          have HMID : Hid (MidP U1 o1 (.pointer (some ⟨Dabc.heap.size, 0, none⟩)) ev Y) := by rw [← hY]; exact midP_mk (z := .mk zn zm zsA zsc zss zcA zcc zcs zvA zvc zvs) qp hpb HZI.out hM HB.out hcase
          replace HB : Hid (Below U1.heap.size U1 Y) := by rw [← hY]; exact set5_bel HB.out hpb
          refine hK.out _ _ ?_ (fun hHeld => ?_)
          · exact HK.out _ HB.out
          clear hK K
          refine takeH 13 12 (v := ?t42_v) rfl rfl (by kernel_rfl) (by kernel_rfl) (by kernel_rfl) (fun _ _ _ h => h) (Or.inl ⟨by rfl, ?t42_h⟩) (by assumption) ?t42_r
          case t42_h => (intro w hSw; (try dsimp only at hSw); go_simp; try (with_reducible rfl))
          simp only [List.set_cons_zero, List.set_cons_succ]
          refine wpAnyH_done (by kernel_rfl) ?_ _
          refine NoPanic.normal ?_
          go_wp2_with fail
          go_meet
          exact ⟨HMID, rfl⟩
        case n38_b =>
          go_simp
          obtain ⟨Dabp, hDabp⟩ : ∃ Dabp, Dab.alloc (.cells #[.int .u64 0, .int .u64 0, .slice none 0 0, .slice none 0 0, .slice none 0 0] 29) = Dabp := ⟨_, rfl⟩
          rw [hDabp]
          have hbn : Below Dab.heap.size Dab Dabp := by rw [← hDabp]; exact allocB _ _
          have HPB : Hid (Blk Dabp Dab.heap.size 29 #[.int .u64 0, .int .u64 0, .slice none 0 0, .slice none 0 0, .slice none 0 0]) := by rw [← hDabp]; exact Blk.new _ _ _
          have hpb : U1.heap.size ≤ Dab.heap.size := HB.out.size
          replace HB : Hid (Below U1.heap.size U1 Dabp) := HB.out.trans (hbn.mono HB.out.size)
          clear hbn
          refine hK.out _ _ ?_ (fun hHeld => ?_)
          · exact HK.out _ HB.out
          clear hK K
          refine wpAnyH_ready (rs := [7]) (by kernel_rfl) (by simp) ?_
          refine AllReadyH.cons rfl (fun K hK => ?_) AllReadyH.nil
          go_simp
          have HLT : Hid (Dab.heap.size < Dabp.heap.size) := HPB.out.lt
          go_wp2_with (go_at_call 31; refine (HJ1.out _ (HW.out.trans (HB.out.mono HW.out.size))).mono ?_; rintro e Dabpc hr; (obtain ⟨⟨zn, zm, zsA, zsc, zss, zcA, zcc, zcs, zvA, zvc, zvs⟩, ev, rfl, hzi, hbn, hcase⟩ := retJ_case hr; simp only [val_mk]; clear hr))
          have hM : U1.heap.size ≤ Dabp.heap.size := HB.out.size
          replace HPB := Lib.hid (HPB.out.below hbn)
          replace HB : Hid (Below U1.heap.size U1 Dabpc) := HB.out.trans (hbn.mono HB.out.size)
          refine hK.out _ _ ?_ (fun hHeld => ?_)
          · exact HK.out _ HB.out
          clear hK K
          refine takeH 8 23 (v := ?t44_v) rfl rfl (by kernel_rfl) (by kernel_rfl) (by kernel_rfl) (fun _ _ _ h => h) (Or.inl ⟨by rfl, ?t44_h⟩) (by assumption) ?t44_r
          case t44_h => (intro w hSw; (try dsimp only at hSw); go_simp; try (with_reducible rfl))
          simp only [List.set_cons_zero, List.set_cons_succ]
          refine takeH 9 32 (v := ?t45_v) rfl rfl (by kernel_rfl) (by kernel_rfl) (by kernel_rfl) (fun _ _ _ h => h) (Or.inl ⟨by rfl, ?t45_h⟩) (by assumption) ?t45_r
          case t45_h => (intro w hSw; (try dsimp only at hSw); go_simp; try (with_reducible rfl))
          simp only [List.set_cons_zero, List.set_cons_succ]
          refine takeH 10 33 (v := ?t46_v) rfl rfl (by kernel_rfl) (by kernel_rfl) (by kernel_rfl) (fun _ _ _ h => h) (Or.inl ⟨by rfl, ?t46_h⟩) (by assumption) ?t46_r
          case t46_h => (intro w hSw; (try dsimp only at hSw); go_simp; try (with_reducible rfl))
          simp only [List.set_cons_zero, List.set_cons_succ]
          have HZI : Hid ((Vl.mk zn zm zsA zsc zss zcA zcc zcs zvA zvc zvs).Inp (fun b => Dabp.heap.size ≤ b ∧ b < Dabpc.heap.size ∧ b ≠ Dab.heap.size) Dabpc) := hzi.mono fun b hP => ⟨hP.1, hP.2, by have := hP.1; have := HLT.out; omega⟩
          have qp := HPB.out
          have d0 : Dabpc.cell? ⟨Dab.heap.size, 0, none⟩ = some (.int .u64 0) := blk_cell qp 0 _ rfl
          have d1 : Dabpc.cell? ⟨Dab.heap.size, 1, none⟩ = some (.int .u64 0) := blk_cell qp 1 _ rfl
          have d2 : Dabpc.cell? ⟨Dab.heap.size, 2, none⟩ = some (.slice none 0 0) := blk_cell qp 2 _ rfl
          have d3 : Dabpc.cell? ⟨Dab.heap.size, 3, none⟩ = some (.slice none 0 0) := blk_cell qp 3 _ rfl
          have d4 : Dabpc.cell? ⟨Dab.heap.size, 4, none⟩ = some (.slice none 0 0) := blk_cell qp 4 _ rfl
          have f0 := blk_frozen qp 0
          have f1 := blk_frozen qp 1
          have f2 := blk_frozen qp 2
          have f3 := blk_frozen qp 3
          have f4 := blk_frozen qp 4
          refine wpAnyH_ready (rs := [12]) (by kernel_rfl) (by simp) ?_
          refine AllReadyH.cons rfl (fun K hK => ?_) AllReadyH.nil
          go_simp
          obtain ⟨Y, hY⟩ : ∃ Y, set5 Dabpc (Dab.heap.size) (.int .u64 zn) (.int .u64 zm) (.slice zsA zss.length zsc) (.slice zcA zcs.length zcc) (.slice zvA zvs.length zvc) = Y := ⟨_, rfl⟩
          change K _ (set5 Dabpc (Dab.heap.size) (.int .u64 zn) (.int .u64 zm) (.slice zsA zss.length zsc) (.slice zcA zcs.length zcc) (.slice zvA zvs.length zvc))
          rw [hY]
          have HMID : Hid (MidP U1 o1 (.pointer (some ⟨Dab.heap.size, 0, none⟩)) ev Y) := by rw [← hY]; exact midP_mk (z := .mk zn zm zsA zsc zss zcA zcc zcs zvA zvc zvs) qp hpb HZI.out hM HB.out hcase
          replace HB : Hid (Below U1.heap.size U1 Y) := by rw [← hY]; exact set5_bel HB.out hpb
          refine hK.out _ _ ?_ (fun hHeld => ?_)
          · exact HK.out _ HB.out
          clear hK K
          refine takeH 13 12 (v := ?t47_v) rfl rfl (by kernel_rfl) (by kernel_rfl) (by kernel_rfl) (fun _ _ _ h => h) (Or.inl ⟨by rfl, ?t47_h⟩) (by assumption) ?t47_r
          case t47_h => (intro w hSw; (try dsimp only at hSw); go_simp; try (with_reducible rfl))
          simp only [List.set_cons_zero, List.set_cons_succ]
          refine wpAnyH_done (by kernel_rfl) ?_ _
          refine NoPanic.normal ?_
          go_wp2_with fail
          go_meet
          exact ⟨HMID, rfl⟩
      case n37_b =>
        go_simp
        obtain ⟨Dap, hDap⟩ : ∃ Dap, Da.alloc (.cells #[.int .u64 0, .int .u64 0, .slice none 0 0, .slice none 0 0, .slice none 0 0] 29) = Dap := ⟨_, rfl⟩
        rw [hDap]
        have hbn : Below Da.heap.size Da Dap := by rw [← hDap]; exact allocB _ _
        have HPB : Hid (Blk Dap Da.heap.size 29 #[.int .u64 0, .int .u64 0, .slice none 0 0, .slice none 0 0, .slice none 0 0]) := by rw [← hDap]; exact Blk.new _ _ _
        have hpb : U1.heap.size ≤ Da.heap.size := HB.out.size
        replace HB : Hid (Below U1.heap.size U1 Dap) := HB.out.trans (hbn.mono HB.out.size)
        clear hbn
        refine hK.out _ _ ?_ (fun hHeld => ?_)
        · exact HK.out _ HB.out
        clear hK K
        refine wpAnyH_ready (rs := [6]) (by kernel_rfl) (by simp) ?_
        refine AllReadyH.cons rfl (fun K hK => ?_) AllReadyH.nil
        go_simp
        go_wp2_with (go_at_call 64; refine (HY1.out _ (HW.out.trans (HB.out.mono HW.out.size))).mono ?_; rintro e Dapb ⟨rfl, _, hbn⟩)
        replace HPB := Lib.hid (HPB.out.below hbn)
        replace HB : Hid (Below U1.heap.size U1 Dapb) := HB.out.trans (hbn.mono HB.out.size)
        clear hbn
        refine hK.out _ _ ?_ (fun hHeld => ?_)
        · exact HK.out _ HB.out
        clear hK K
        refine wpAnyH_ready (rs := [7]) (by kernel_rfl) (by simp) ?_
        refine AllReadyH.cons rfl (fun K hK => ?_) AllReadyH.nil
        go_simp
        have HLT : Hid (Da.heap.size < Dapb.heap.size) := HPB.out.lt
        go_wp2_with (go_at_call 31; refine (HJ1.out _ (HW.out.trans (HB.out.mono HW.out.size))).mono ?_; rintro e Dapbc hr; (obtain ⟨⟨zn, zm, zsA, zsc, zss, zcA, zcc, zcs, zvA, zvc, zvs⟩, ev, rfl, hzi, hbn, hcase⟩ := retJ_case hr; simp only [val_mk]; clear hr))
        have hM : U1.heap.size ≤ Dapb.heap.size := HB.out.size
        replace HPB := Lib.hid (HPB.out.below hbn)
        replace HB : Hid (Below U1.heap.size U1 Dapbc) := HB.out.trans (hbn.mono HB.out.size)
        refine hK.out _ _ ?_ (fun hHeld => ?_)
        · exact HK.out _ HB.out
        clear hK K
        refine takeH 8 23 (v := ?t50_v) rfl rfl (by kernel_rfl) (by kernel_rfl) (by kernel_rfl) (fun _ _ _ h => h) (Or.inl ⟨by rfl, ?t50_h⟩) (by assumption) ?t50_r
        case t50_h => (intro w hSw; (try dsimp only at hSw); go_simp; try (with_reducible rfl))
        simp only [List.set_cons_zero, List.set_cons_succ]
        refine takeH 9 32 (v := ?t51_v) rfl rfl (by kernel_rfl) (by kernel_rfl) (by kernel_rfl) (fun _ _ _ h => h) (Or.inl ⟨by rfl, ?t51_h⟩) (by assumption) ?t51_r
        case t51_h => (intro w hSw; (try dsimp only at hSw); go_simp; try (with_reducible rfl))
        simp only [List.set_cons_zero, List.set_cons_succ]
        refine takeH 10 33 (v := ?t52_v) rfl rfl (by kernel_rfl) (by kernel_rfl) (by kernel_rfl) (fun _ _ _ h => h) (Or.inl ⟨by rfl, ?t52_h⟩) (by assumption) ?t52_r
        case t52_h => (intro w hSw; (try dsimp only at hSw); go_simp; try (with_reducible rfl))
        simp only [List.set_cons_zero, List.set_cons_succ]
        have HZI : Hid ((Vl.mk zn zm zsA zsc zss zcA zcc zcs zvA zvc zvs).Inp (fun b => Dapb.heap.size ≤ b ∧ b < Dapbc.heap.size ∧ b ≠ Da.heap.size) Dapbc) := hzi.mono fun b hP => ⟨hP.1, hP.2, by have := hP.1; have := HLT.out; omega⟩
        have qp := HPB.out
        have d0 : Dapbc.cell? ⟨Da.heap.size, 0, none⟩ = some (.int .u64 0) := blk_cell qp 0 _ rfl
        have d1 : Dapbc.cell? ⟨Da.heap.size, 1, none⟩ = some (.int .u64 0) := blk_cell qp 1 _ rfl
        have d2 : Dapbc.cell? ⟨Da.heap.size, 2, none⟩ = some (.slice none 0 0) := blk_cell qp 2 _ rfl
        have d3 : Dapbc.cell? ⟨Da.heap.size, 3, none⟩ = some (.slice none 0 0) := blk_cell qp 3 _ rfl
        have d4 : Dapbc.cell? ⟨Da.heap.size, 4, none⟩ = some (.slice none 0 0) := blk_cell qp 4 _ rfl
        have f0 := blk_frozen qp 0
        have f1 := blk_frozen qp 1
        have f2 := blk_frozen qp 2
        have f3 := blk_frozen qp 3
        have f4 := blk_frozen qp 4
        refine wpAnyH_ready (rs := [12]) (by kernel_rfl) (by simp) ?_
        refine AllReadyH.cons rfl (fun K hK => ?_) AllReadyH.nil
        go_simp
        obtain ⟨Y, hY⟩ : ∃ Y, set5 Dapbc (Da.heap.size) (.int .u64 zn) (.int .u64 zm) (.slice zsA zss.length zsc) (.slice zcA zcs.length zcc) (.slice zvA zvs.length zvc) = Y := ⟨_, rfl⟩
        change K _ (set5 Dapbc (Da.heap.size) (.int .u64 zn) (.int .u64 zm) (.slice zsA zss.length zsc) (.slice zcA zcs.length zcc) (.slice zvA zvs.length zvc))
        rw [hY]
        have HMID : Hid (MidP U1 o1 (.pointer (some ⟨Da.heap.size, 0, none⟩)) ev Y) := by rw [← hY]; exact midP_mk (z := .mk zn zm zsA zsc zss zcA zcc zcs zvA zvc zvs) qp hpb HZI.out hM HB.out hcase
        replace HB : Hid (Below U1.heap.size U1 Y) := by rw [← hY]; exact set5_bel HB.out hpb
        refine hK.out _ _ ?_ (fun hHeld => ?_)
        · exact HK.out _ HB.out
        clear hK K
        refine takeH 13 12 (v := ?t53_v) rfl rfl (by kernel_rfl) (by kernel_rfl) (by kernel_rfl) (fun _ _ _ h => h) (Or.inl ⟨by rfl, ?t53_h⟩) (by assumption) ?t53_r
        case t53_h => (intro w hSw; (try dsimp only at hSw); go_simp; try (with_reducible rfl))
        simp only [List.set_cons_zero, List.set_cons_succ]
        refine wpAnyH_done (by kernel_rfl) ?_ _
        refine NoPanic.normal ?_
        go_wp2_with fail
        go_meet
        exact ⟨HMID, rfl⟩
    case n36_b =>
      go_simp
      obtain ⟨Dp, hDp⟩ : ∃ Dp, D.alloc (.cells #[.int .u64 0, .int .u64 0, .slice none 0 0, .slice none 0 0, .slice none 0 0] 29) = Dp := ⟨_, rfl⟩
      rw [hDp]
      have hbn : Below D.heap.size D Dp := by rw [← hDp]; exact allocB _ _
      have HPB : Hid (Blk Dp D.heap.size 29 #[.int .u64 0, .int .u64 0, .slice none 0 0, .slice none 0 0, .slice none 0 0]) := by rw [← hDp]; exact Blk.new _ _ _
      have hpb : U1.heap.size ≤ D.heap.size := HB.out.size
      replace HB : Hid (Below U1.heap.size U1 Dp) := HB.out.trans (hbn.mono HB.out.size)
      clear hbn
      refine hK.out _ _ ?_ (fun hHeld => ?_)
      · exact HK.out _ HB.out
      clear hK K
      refine wpAnyH_ready (rs := [3]) (by kernel_rfl) (by simp) ?_
      refine AllReadyH.cons rfl (fun K hK => ?_) AllReadyH.nil
      go_simp
      go_wp2_with (go_at_call 64; refine (HX1.out _ (HW.out.trans (HB.out.mono HW.out.size))).mono ?_; rintro e Dpa ⟨rfl, _, hbn⟩)
      replace HPB := Lib.hid (HPB.out.below hbn)
      replace HB : Hid (Below U1.heap.size U1 Dpa) := HB.out.trans (hbn.mono HB.out.size)
      clear hbn
      refine hK.out _ _ ?_ (fun hHeld => ?_)
      · exact HK.out _ HB.out
      clear hK K
      refine wpAnyH_ready (rs := [6]) (by kernel_rfl) (by simp) ?_
      refine AllReadyH.cons rfl (fun K hK => ?_) AllReadyH.nil
      go_simp
      go_wp2_with (go_at_call 64; refine (HY1.out _ (HW.out.trans (HB.out.mono HW.out.size))).mono ?_; rintro e Dpab ⟨rfl, _, hbn⟩)
      replace HPB := Lib.hid (HPB.out.below hbn)
      replace HB : Hid (Below U1.heap.size U1 Dpab) := HB.out.trans (hbn.mono HB.out.size)
      clear hbn
      refine hK.out _ _ ?_ (fun hHeld => ?_)
      · exact HK.out _ HB.out
      clear hK K
      refine wpAnyH_ready (rs := [7]) (by kernel_rfl) (by simp) ?_
      refine AllReadyH.cons rfl (fun K hK => ?_) AllReadyH.nil
      go_simp
      have HLT : Hid (D.heap.size < Dpab.heap.size) := HPB.out.lt
      go_wp2_with (go_at_call 31; refine (HJ1.out _ (HW.out.trans (HB.out.mono HW.out.size))).mono ?_; rintro e Dpabc hr; (obtain ⟨⟨zn, zm, zsA, zsc, zss, zcA, zcc, zcs, zvA, zvc, zvs⟩, ev, rfl, hzi, hbn, hcase⟩ := retJ_case hr; simp only [val_mk]; clear hr))
      have hM : U1.heap.size ≤ Dpab.heap.size := HB.out.size
      replace HPB := Lib.hid (HPB.out.below hbn)
      replace HB : Hid (Below U1.heap.size U1 Dpabc) := HB.out.trans (hbn.mono HB.out.size)
      refine hK.out _ _ ?_ (fun hHeld => ?_)
      · exact HK.out _ HB.out
      clear hK K
      refine takeH 8 23 (v := ?t57_v) rfl rfl (by kernel_rfl) (by kernel_rfl) (by kernel_rfl) (fun _ _ _ h => h) (Or.inl ⟨by rfl, ?t57_h⟩) (by assumption) ?t57_r
      case t57_h => (intro w hSw; (try dsimp only at hSw); go_simp; try (with_reducible rfl))
      simp only [List.set_cons_zero, List.set_cons_succ]
      refine takeH 9 32 (v := ?t58_v) rfl rfl (by kernel_rfl) (by kernel_rfl) (by kernel_rfl) (fun _ _ _ h => h) (Or.inl ⟨by rfl, ?t58_h⟩) (by assumption) ?t58_r
      case t58_h => (intro w hSw; (try dsimp only at hSw); go_simp; try (with_reducible rfl))
      simp only [List.set_cons_zero, List.set_cons_succ]
      refine takeH 10 33 (v := ?t59_v) rfl rfl (by kernel_rfl) (by kernel_rfl) (by kernel_rfl) (fun _ _ _ h => h) (Or.inl ⟨by rfl, ?t59_h⟩) (by assumption) ?t59_r
      case t59_h => (intro w hSw; (try dsimp only at hSw); go_simp; try (with_reducible rfl))
      simp only [List.set_cons_zero, List.set_cons_succ]
      have HZI : Hid ((Vl.mk zn zm zsA zsc zss zcA zcc zcs zvA zvc zvs).Inp (fun b => Dpab.heap.size ≤ b ∧ b < Dpabc.heap.size ∧ b ≠ D.heap.size) Dpabc) := hzi.mono fun b hP => ⟨hP.1, hP.2, by have := hP.1; have := HLT.out; omega⟩
      have qp := HPB.out
      have d0 : Dpabc.cell? ⟨D.heap.size, 0, none⟩ = some (.int .u64 0) := blk_cell qp 0 _ rfl
      have d1 : Dpabc.cell? ⟨D.heap.size, 1, none⟩ = some (.int .u64 0) := blk_cell qp 1 _ rfl
      have d2 : Dpabc.cell? ⟨D.heap.size, 2, none⟩ = some (.slice none 0 0) := blk_cell qp 2 _ rfl
      have d3 : Dpabc.cell? ⟨D.heap.size, 3, none⟩ = some (.slice none 0 0) := blk_cell qp 3 _ rfl
      have d4 : Dpabc.cell? ⟨D.heap.size, 4, none⟩ = some (.slice none 0 0) := blk_cell qp 4 _ rfl
      have f0 := blk_frozen qp 0
      have f1 := blk_frozen qp 1
      have f2 := blk_frozen qp 2
      have f3 := blk_frozen qp 3
      have f4 := blk_frozen qp 4
      refine wpAnyH_ready (rs := [12]) (by kernel_rfl) (by simp) ?_
      refine AllReadyH.cons rfl (fun K hK => ?_) AllReadyH.nil
      go_simp
      obtain ⟨Y, hY⟩ : ∃ Y, set5 Dpabc (D.heap.size) (.int .u64 zn) (.int .u64 zm) (.slice zsA zss.length zsc) (.slice zcA zcs.length zcc) (.slice zvA zvs.length zvc) = Y := ⟨_, rfl⟩
      change K _ (set5 Dpabc (D.heap.size) (.int .u64 zn) (.int .u64 zm) (.slice zsA zss.length zsc) (.slice zcA zcs.length zcc) (.slice zvA zvs.length zvc))
      rw [hY]
      have HMID : Hid (MidP U1 o1 (.pointer (some ⟨D.heap.size, 0, none⟩)) ev Y) := by rw [← hY]; exact midP_mk (z := .mk zn zm zsA zsc zss zcA zcc zcs zvA zvc zvs) qp hpb HZI.out hM HB.out hcase
      replace HB : Hid (Below U1.heap.size U1 Y) := by rw [← hY]; exact set5_bel HB.out hpb
      refine hK.out _ _ ?_ (fun hHeld => ?_)
      · exact HK.out _ HB.out
      clear hK K
      refine takeH 13 12 (v := ?t60_v) rfl rfl (by kernel_rfl) (by kernel_rfl) (by kernel_rfl) (fun _ _ _ h => h) (Or.inl ⟨by rfl, ?t60_h⟩) (by assumption) ?t60_r
      case t60_h => (intro w hSw; (try dsimp only at hSw); go_simp; try (with_reducible rfl))
      simp only [List.set_cons_zero, List.set_cons_succ]
      refine wpAnyH_done (by kernel_rfl) ?_ _
      refine NoPanic.normal ?_
      go_wp2_with fail
      go_meet
      exact ⟨HMID, rfl⟩
  obtain ⟨⟨pb, ⟨zn, zm, zsA, zsc, zss, zcA, zcc, zcs, zvA, zvc, zvs⟩, rfl, hpb, hqp, hzi, hbc, hcase⟩, rfl⟩ := hcut
  simp only [V4.Vl.n, V4.Vl.m, V4.Vl.s1, V4.Vl.c1, V4.Vl.v1] at hqp
  obtain ⟨C1, hC1⟩ : ∃ C1, wc = C1 := ⟨_, rfl⟩
  rw [hC1] at hqp hzi hbc
  rw [hC1]
  clear hC1
  have BC1 : Below w.heap.size w C1 := BU1.trans (hbc.mono BU1.size)
  replace qx := qx.below hbc
  replace qy := qy.below hbc
  replace qr := qr.below hbc
  replace qm := qm.below hbc
  clear qs
  replace HU0 : Hid ((Vl.mk un um usA usc uss ucA ucc ucs uvA uvc uvs).Inp (fun b => w.heap.size + 4 ≤ b ∧ b < C1.heap.size) C1) := (HU0.out.keep fun b hP => hbc.block b hP.2).mono fun b hP => ⟨hP.1, Nat.lt_of_lt_of_le hP.2 hbc.size⟩
  have hsC1 := hbc.size
  rcases hcase with ⟨ho, rfl⟩ | ⟨ho, rfl⟩
  · have hev : errV 13 = .iface 51 (.int .i64 13) := rfl
    rw [hev]
    have d0 : C1.cell? ⟨w.heap.size + 1 + 1, 0, none⟩ = some (.int .u64 0) := blk_cell qr 0 _ rfl
    have d1 : C1.cell? ⟨w.heap.size + 1 + 1, 1, none⟩ = some (.int .u64 0) := blk_cell qr 1 _ rfl
    have d2 : C1.cell? ⟨w.heap.size + 1 + 1, 2, none⟩ = some (.slice none 0 0) := blk_cell qr 2 _ rfl
    have d3 : C1.cell? ⟨w.heap.size + 1 + 1, 3, none⟩ = some (.slice none 0 0) := blk_cell qr 3 _ rfl
    have d4 : C1.cell? ⟨w.heap.size + 1 + 1, 4, none⟩ = some (.slice none 0 0) := blk_cell qr 4 _ rfl
    have f0 := blk_frozen qr 0
    have f1 := blk_frozen qr 1
    have f2 := blk_frozen qr 2
    have f3 := blk_frozen qr 3
    have f4 := blk_frozen qr 4
    go_wp2_with fail
    refine bodyPost_ret (results_cv rfl _ _ (w.heap.size + 1 + 1) (.int .u64 0) (.int .u64 0) (.slice none 0 0) (.slice none 0 0) (.slice none 0 0) rfl (blk_cell (set5_blk qr) 0 _ rfl) (blk_cell (set5_blk qr) 1 _ rfl) (blk_cell (set5_blk qr) 2 _ rfl) (blk_cell (set5_blk qr) 3 _ rfl) (blk_cell (set5_blk qr) 4 _ rfl)) rfl ?_
    refine .inr ⟨?_, rfl, set5_bel BC1 (by omega)⟩
    rw [HPE.out, ho]
    cases o0 <;> rfl
  have HO1 := Lib.hid ho
  clear ho
  have a0 : C1.cell? ⟨pb, 0, none⟩ = some (.int .u64 zn) := blk_cell hqp 0 _ rfl
  have a1 : C1.cell? ⟨pb, 1, none⟩ = some (.int .u64 zm) := blk_cell hqp 1 _ rfl
  have a2 : C1.cell? ⟨pb, 2, none⟩ = some (.slice zsA zss.length zsc) := blk_cell hqp 2 _ rfl
  have a3 : C1.cell? ⟨pb, 3, none⟩ = some (.slice zcA zcs.length zcc) := blk_cell hqp 3 _ rfl
  have a4 : C1.cell? ⟨pb, 4, none⟩ = some (.slice zvA zvs.length zvc) := blk_cell hqp 4 _ rfl
  have m0 : C1.cell? ⟨w.heap.size + 1 + 1 + 1, 0, none⟩ = some (.int .u64 un) := blk_cell qm 0 _ rfl
  have m1 : C1.cell? ⟨w.heap.size + 1 + 1 + 1, 1, none⟩ = some (.int .u64 um) := blk_cell qm 1 _ rfl
  have m2 : C1.cell? ⟨w.heap.size + 1 + 1 + 1, 2, none⟩ = some (.slice usA uss.length usc) := blk_cell qm 2 _ rfl
  have m3 : C1.cell? ⟨w.heap.size + 1 + 1 + 1, 3, none⟩ = some (.slice ucA ucs.length ucc) := blk_cell qm 3 _ rfl
  have m4 : C1.cell? ⟨w.heap.size + 1 + 1 + 1, 4, none⟩ = some (.slice uvA uvs.length uvc) := blk_cell qm 4 _ rfl
  have m5 : C1.cell? ⟨w.heap.size + 1 + 1 + 1, 5, none⟩ = some (.int .u64 0) := blk_cell qm 5 _ rfl
  have m6 : C1.cell? ⟨w.heap.size + 1 + 1 + 1, 6, none⟩ = some (.int .u64 0) := blk_cell qm 6 _ rfl
  have m7 : C1.cell? ⟨w.heap.size + 1 + 1 + 1, 7, none⟩ = some (.slice none 0 0) := blk_cell qm 7 _ rfl
  have m8 : C1.cell? ⟨w.heap.size + 1 + 1 + 1, 8, none⟩ = some (.slice none 0 0) := blk_cell qm 8 _ rfl
  have m9 : C1.cell? ⟨w.heap.size + 1 + 1 + 1, 9, none⟩ = some (.slice none 0 0) := blk_cell qm 9 _ rfl
  have g5 := blk_frozen qm 5
  have g6 := blk_frozen qm 6
  have g7 := blk_frozen qm 7
  have g8 := blk_frozen qm 8
  have g9 := blk_frozen qm 9
  obtain ⟨E1, hE1⟩ : ∃ E1, set5b C1 (w.heap.size + 1 + 1 + 1) (.int .u64 zn) (.int .u64 zm) (.slice zsA zss.length zsc) (.slice zcA zcs.length zcc) (.slice zvA zvs.length zvc) = E1 := ⟨_, rfl⟩
  have BE1 : Below w.heap.size w E1 := by rw [← hE1]; exact set5b_bel BC1 (by omega)
  have hsE1 : E1.heap.size ≤ C1.heap.size ∧ C1.heap.size ≤ E1.heap.size := by rw [← hE1]; exact ⟨Nat.le_of_eq set5b_size, Nat.le_of_eq set5b_size.symm⟩
  have qm2 : Blk E1 (w.heap.size + 1 + 1 + 1) 29 #[.int .u64 un, .int .u64 um, .slice usA uss.length usc, .slice ucA ucs.length ucc, .slice uvA uvs.length uvc, .int .u64 zn, .int .u64 zm, .slice zsA zss.length zsc, .slice zcA zcs.length zcc, .slice zvA zvs.length zvc] := by rw [← hE1]; exact set10b_blk qm
  replace qx : Blk E1 (w.heap.size) 29 #[.int .u64 n, .int .u64 m, .slice sA ss.length sc, .slice cA cs.length cc, .slice vA vs.length vc] := by rw [← hE1]; exact (set5b_low (by omega)).trans qx
  replace qy : Blk E1 (w.heap.size + 1) 29 #[.int .u64 n', .int .u64 m', .slice sA' ss'.length sc', .slice cA' cs'.length cc', .slice vA' vs'.length vc'] := by rw [← hE1]; exact (set5b_low (by omega)).trans qy
  replace qr : Blk E1 (w.heap.size + 1 + 1) 29 #[.int .u64 0, .int .u64 0, .slice none 0 0, .slice none 0 0, .slice none 0 0] := by rw [← hE1]; exact (set5b_low (by omega)).trans qr
  have HN1 : Hid ((Vl.mk zn zm zsA zsc zss zcA zcc zcs zvA zvc zvs).Inp (fun b => w.heap.size + 4 ≤ b ∧ b < E1.heap.size) E1) := by
    refine (hzi.keep fun b hP => ?_).mono fun b hP => ⟨by have := hP.1; omega, by have := hP.2.1; omega⟩
    rw [← hE1]; exact set5b_low (by have := hP.1; omega)
  replace HU0 : Hid ((Vl.mk un um usA usc uss ucA ucc ucs uvA uvc uvs).Inp (fun b => w.heap.size + 4 ≤ b ∧ b < E1.heap.size) E1) := by
    refine (HU0.out.keep fun b hP => ?_).mono fun b hP => ⟨hP.1, by have := hP.2; omega⟩
    rw [← hE1]; exact set5b_low (by have := hP.1; omega)
  have hE : set5b C1 (w.heap.size + 1 + 1 + 1) (.int .u64 zn) (.int .u64 zm) (.slice zsA zss.length zsc) (.slice zcA zcs.length zcc) (.slice zvA zvs.length zvc) = E1 := hE1
  unfold set5b at hE
  clear hE1 qm hzi hqp
  go_wp2_with fail
  clear hE a0 a1 a2 a3 a4 m0 m1 m2 m3 m4 m5 m6 m7 m8 m9 g5 g6 g7 g8 g9
  have qm := qm2
  clear qm2
  rw [rounds_succ]
  have d0 : E1.cell? ⟨w.heap.size + 1 + 1, 0, none⟩ = some (.int .u64 0) := blk_cell qr 0 _ rfl
  have d1 : E1.cell? ⟨w.heap.size + 1 + 1, 1, none⟩ = some (.int .u64 0) := blk_cell qr 1 _ rfl
  have d2 : E1.cell? ⟨w.heap.size + 1 + 1, 2, none⟩ = some (.slice none 0 0) := blk_cell qr 2 _ rfl
  have d3 : E1.cell? ⟨w.heap.size + 1 + 1, 3, none⟩ = some (.slice none 0 0) := blk_cell qr 3 _ rfl
  have d4 : E1.cell? ⟨w.heap.size + 1 + 1, 4, none⟩ = some (.slice none 0 0) := blk_cell qr 4 _ rfl
  have f0 := blk_frozen qr 0
  have f1 := blk_frozen qr 1
  have f2 := blk_frozen qr 2
  have f3 := blk_frozen qr 3
  have f4 := blk_frozen qr 4
  go_wp2_with fail
  refine bodyPost_ret (results_cv rfl _ _ (w.heap.size + 1 + 1) (.int .u64 0) (.int .u64 0) (.slice none 0 0) (.slice none 0 0) (.slice (some ⟨w.heap.size + 1 + 1 + 1, 0, none⟩) 2 2) rfl (blk_cell (set5_blk qr) 0 _ rfl) (blk_cell (set5_blk qr) 1 _ rfl) (blk_cell (set5_blk qr) 2 _ rfl) (blk_cell (set5_blk qr) 3 _ rfl) (blk_cell (set5_blk qr) 4 _ rfl)) rfl ?_
  refine .inl ⟨.mk 0 0 none 0 [] none 0 [] (some ⟨w.heap.size + 1 + 1 + 1, 0, none⟩) 2 [.mk un um usA usc uss ucA ucc ucs uvA uvc uvs, .mk zn zm zsA zsc zss zcA zcc zcs zvA zvc zvs], ?_, rfl, ?_, set5_bel BE1 (by omega)⟩
  · rw [HPE.out, HO0.out, HO1.out, er_mk 0 0]; rfl
  have low : ∀ b, b ≠ w.heap.size + 1 + 1 → (set5 E1 (w.heap.size + 1 + 1) (.int .u64 0) (.int .u64 0) (.slice none 0 0) (.slice none 0 0) (.slice (some ⟨w.heap.size + 1 + 1 + 1, 0, none⟩) 2 2)).heap[b]? = E1.heap[b]? := fun b h => set5_low h
  have ssz : (set5 E1 (w.heap.size + 1 + 1) (.int .u64 0) (.int .u64 0) (.slice none 0 0) (.slice none 0 0) (.slice (some ⟨w.heap.size + 1 + 1 + 1, 0, none⟩) 2 2)).heap.size = E1.heap.size := set5_size
  have hlm := qm.lt
  refine .mk _ _ _ _ _ _ _ _ _ _ _ (by omega) (by omega) (.inl rfl) (by simp) (by simp) (.inl rfl) (by simp) (by simp) (.inr ⟨w.heap.size + 1 + 1 + 1, 0, rfl, ⟨by omega, Nat.lt_of_lt_of_le hlm (Nat.le_of_eq ssz.symm)⟩, fun i u hu => ?_⟩) (by simp [maxLen]) (fun x hx => ?_)
  · rw [Nat.zero_add]
    refine (World.cell?_of_block (a := ⟨w.heap.size + 1 + 1 + 1, i, none⟩) (low (w.heap.size + 1 + 1 + 1) (by omega))).trans (blk_cell qm i u ?_)
    simpa [cellsV, V4.Vl.n, V4.Vl.m, V4.Vl.s1, V4.Vl.c1, V4.Vl.v1] using hu
  · have fin : ∀ {X : Vl}, X.Inp (fun b => w.heap.size + 4 ≤ b ∧ b < E1.heap.size) E1 → X.Inp (fun b => w.heap.size ≤ b ∧ b < (set5 E1 (w.heap.size + 1 + 1) (.int .u64 0) (.int .u64 0) (.slice none 0 0) (.slice none 0 0) (.slice (some ⟨w.heap.size + 1 + 1 + 1, 0, none⟩) 2 2)).heap.size) (set5 E1 (w.heap.size + 1 + 1) (.int .u64 0) (.int .u64 0) (.slice none 0 0) (.slice none 0 0) (.slice (some ⟨w.heap.size + 1 + 1 + 1, 0, none⟩) 2 2)) := fun {X} h => (h.keep fun b hP => low b (by have := hP.1; omega)).mono fun b hP => ⟨by have := hP.1; omega, Nat.lt_of_lt_of_le hP.2 (Nat.le_of_eq ssz.symm)⟩
    simp only [List.mem_cons, List.not_mem_nil, or_false] at hx
    rcases hx with rfl | rfl
    · exact fin HU0.out
    · exact fin HN1.out
end Go.Proofs.YtdbohojncbeajaaGreat.J5
