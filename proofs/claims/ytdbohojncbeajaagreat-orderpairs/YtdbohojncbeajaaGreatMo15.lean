/- What join.together does (clocks as marks), if join does what it should for what is inside. -/
import Derived.Test.YtdbohojncbeajaaGreatMo14
namespace Go.Proofs.YtdbohojncbeajaaGreat.J5
open Go.RowKit Go.Shelf
open C3 (Tk In belAl allocB)
open V4 (Va Vl Ck LiesC cellsV val_mk KF Ab)

attribute [local go_sem] Oper.semAt_some

def er3T (p : Ck × Vl × Vl) : Ck × Va × Va := (p.1, p.2.1.er, p.2.2.er)
def er2T (p : Ck × Vl) : Ck × Va := (p.1, p.2.er)

theorem results_lT {fn : Func} {p q : Tmp} (h : fn.results = #[.cell p 130, .cell q 32]) (tmps : Array Value) (w : World) (g g2 : Nat) (v0 v1 v2 : Value) (hp : tmps.getD p undef = .pointer (some ⟨g, 0, none⟩)) (hq : tmps.getD q undef = .pointer (some ⟨g2, 0, none⟩))
    (h0 : w.cell? ⟨g, 0, none⟩ = some v0) (h1 : w.cell? ⟨g, 1, none⟩ = some v1) (h2 : w.cell? ⟨g2, 0, none⟩ = some v2) : (results fn tmps).run Tryz.prog w = .ok (.tuple #[.agg #[v0, v1], v2]) w := by
  have hp' : tmps[p]?.getD undef = .pointer (some ⟨g, 0, none⟩) := by simpa using hp
  have hq' : tmps[q]?.getD undef = .pointer (some ⟨g2, 0, none⟩) := by simpa using hq
  simp [results, h, hp', hq', asAddr]
  go_simp

/-- What together answers. -/
def RetTT (w : World) (o : Option (List (Ck × Va))) (e : Ending) (w' : World) : Prop :=
  (∃ vm vv, ∃ out : List (Ck × Vl), o = some (out.map er2T) ∧ e = .returned (.tuple #[.agg #[vm, vv], .nilIface]) ∧ Hd encT 44 w.heap.size (fun _ => True) vm vv out w' ∧ out.length ≤ 40 ∧ Below w.heap.size w w') ∨
  (o = none ∧ e = .returned (.tuple #[.agg #[.slice none 0 0, .slice none 0 0], errV 13]) ∧ Below w.heap.size w w')

/-- How far the loop has come. -/
structure TgT (w : World) (sc : Array Value) (f : Va → Va → Option Va) (zs : List (Ck × Vl × Vl)) (k : Nat) (X : Nat → Prop) (W : World) : Prop where
  bs : Blk W w.heap.size 37 sc
  b4 : Blk W (w.heap.size + 1) 130 #[.slice none 0 0, .slice none 0 0]
  b5 : Blk W (w.heap.size + 1 + 1) 32 #[.nilIface]
  ex : ∃ vm vv, ∃ out : List (Ck × Vl), Blk W (w.heap.size + 1 + 1 + 1) 130 #[vm, vv] ∧ Hd encT 44 (w.heap.size + 4) X vm vv out W ∧ allE f ((zs.map er3T).take k) = some (out.map er2T) ∧ out.length = k ∧ k ≤ 40
  bel : Below w.heap.size w W

theorem TgT.kj {w : World} {sc : Array Value} {f : Va → Va → Option Va} {zs : List (Ck × Vl × Vl)} {k B : Nat} {X : Nat → Prop} {W W' : World} (h : TgT w sc f zs k X W) (hk : KJ B X W W') (hB : w.heap.size + 4 ≤ B) : TgT w sc f zs k X W' := by
  obtain ⟨vm, vv, out, h1, h2, h3, h4, h5⟩ := h.ex
  have hb := hk.bel
  exact ⟨(hb.block _ (by omega)).trans h.bs, (hb.block _ (by omega)).trans h.b4, (hb.block _ (by omega)).trans h.b5, ⟨vm, vv, out, (hb.block _ (by omega)).trans h1, h2.kj hk, h3, h4, h5⟩, h.bel.trans (hb.mono (by omega))⟩

/-- .. and where it was left. -/
def TxT (w : World) (f : Va → Va → Option Va) (zs : List (Ck × Vl × Vl)) (c : Code) (W : World) : Prop :=
  c = .ret ∧ Blk W (w.heap.size + 1) 130 #[.slice none 0 0, .slice none 0 0] ∧ Blk W (w.heap.size + 1 + 1) 32 #[errV 13] ∧ togE f (zs.map er3T) = none ∧ Below w.heap.size w W

set_option maxRecDepth 100000 in
set_option maxHeartbeats 4000000 in
theorem togetherT_any (s : S2.Sc) (lb : Array Value) (f : Va → Va → Option Va) (zs : List (Ck × Vl × Vl)) (w : World)
    (hseq : SeqP Tryz.prog 102 lb encSpT w.heap.size zs w)
    (hj : ∀ x ∈ zs, ∀ W : World, Below w.heap.size w W → Calls Tryz.prog 31 #[s.val, x.2.1.val, x.2.2.val] W (RetJ W (f x.2.1.er x.2.2.er))) :
    Calls Tryz.prog 72 #[s.val, .func (.func 102) #[] lb] w (RetTT w (togE f (zs.map er3T))) := by
  obtain ⟨sk, sA, sc, sl⟩ := s
  simp only [S2.Sc.val] at hj ⊢
  have HJ := Lib.hid hj
  clear hj
  obtain ⟨V, hV⟩ : ∃ V, (((w.alloc (.cells #[.int .i64 sk, .slice sA sl.length sc] 37)).alloc (.cells #[.slice none 0 0, .slice none 0 0] 130)).alloc (.cells #[.nilIface] 32)).alloc (.cells #[.slice none 0 0, .slice none 0 0] 130) = V := ⟨_, rfl⟩
  have hbV : Below w.heap.size w V := by rw [← hV]; exact belAl (belAl (belAl (belAl (Below.refl _ _))))
  have hsz : V.heap.size = w.heap.size + 4 := by rw [← hV]; simp
  have q0 : Blk V w.heap.size 37 #[.int .i64 sk, .slice sA sl.length sc] := by rw [← hV]; exact (((Blk.new w _ _).below (allocB _ _)).below (allocB _ _)).below (allocB _ _)
  have q1 : Blk V (w.heap.size + 1) 130 #[.slice none 0 0, .slice none 0 0] := by
    rw [← hV]
    have := Blk.new (w.alloc (.cells #[.int .i64 sk, .slice sA sl.length sc] 37)) 130 #[.slice none 0 0, .slice none 0 0]
    rw [World.size_alloc] at this
    exact (this.below (allocB _ _)).below (allocB _ _)
  have q2 : Blk V (w.heap.size + 1 + 1) 32 #[.nilIface] := by
    rw [← hV]
    have := Blk.new ((w.alloc (.cells #[.int .i64 sk, .slice sA sl.length sc] 37)).alloc (.cells #[.slice none 0 0, .slice none 0 0] 130)) 32 #[.nilIface]
    rw [World.size_alloc, World.size_alloc] at this
    exact this.below (allocB _ _)
  have q3 : Blk V (w.heap.size + 1 + 1 + 1) 130 #[.slice none 0 0, .slice none 0 0] := by
    rw [← hV]
    have := Blk.new (((w.alloc (.cells #[.int .i64 sk, .slice sA sl.length sc] 37)).alloc (.cells #[.slice none 0 0, .slice none 0 0] 130)).alloc (.cells #[.nilIface] 32)) 130 #[.slice none 0 0, .slice none 0 0]
    rw [World.size_alloc, World.size_alloc, World.size_alloc] at this
    exact this
  have HSQ := Lib.hid (hseq.later hbV)
  have H0 : Hid (TgT w #[.int .i64 sk, .slice sA sl.length sc] f zs 0 (fun _ => False) V) := ⟨q0, q1, q2, ⟨_, _, [], q3, Hd.nil _ _ _, rfl, rfl, by omega⟩, hbV⟩
  clear hseq q0 q1 q2 q3 hbV
  refine (callsIn_wide (n := 6)).1 (callsIn_of_wp_marks Tryz.func72 rfl trivial ?_ rfl)
  simp only [Tryz.ntmps72, List.size_toArray, List.length_cons, List.length_nil, Nat.reduceAdd, Nat.reduceSub, Array.replicate_succ, Array.replicate_zero, List.push_toArray, List.append_toArray, List.nil_append, List.cons_append]
  gi_wp2_with fail
  refine range_row rfl (enters_of Tryz.func102 (by kernel_rfl) rfl) (N := w.heap.size) (by omega) HSQ.out (fun _ => rfl)
    (TgT w #[.int .i64 sk, .slice sA sl.length sc] f zs) (fun c _ W => TxT w f zs c W)
    (fun k X W W' h hk => h.kj hk (by omega))
    (fun c _ W W' ⟨h1, h2, h3, h4, h5⟩ hb => ⟨h1, (hb.block _ (by omega)).trans h2, (hb.block _ (by omega)).trans h3, h4, h5.trans (hb.mono (by omega))⟩)
    H0.out
    (fun x a' W => ∃ bp, a' = { tmps := #[.agg #[.int .i64 sk, .slice sA sl.length sc], .func (.func 102) #[] lb, .pointer (some ⟨w.heap.size, 0, none⟩), undef, .pointer (some ⟨w.heap.size + 1, 0, none⟩), .pointer (some ⟨w.heap.size + 1 + 1, 0, none⟩), .pointer (some ⟨w.heap.size + 1 + 1 + 1, 0, none⟩), .pointer (some ⟨bp, 0, none⟩), undef, undef, .func (.func 102) #[] lb, .agg (cellsT x), undef, undef, undef, undef, undef, undef, undef, undef, undef, undef, undef, undef, undef, undef, undef, undef, undef, undef, undef, undef, undef, undef, undef, undef, undef, undef, undef, undef, undef, undef, undef, undef, undef], defers := [] } ∧ Blk W bp 136 (cellsT x))
    ?ax ?assign ?body ?done ?stop
  case ax =>
    rintro x a' _ X Y row ⟨bp, h1, h2⟩ hg hr
    refine ⟨bp, h1, (hg.block bp h2.lt fun e => ?_).trans h2⟩
    obtain ⟨_, o, ho1, ho2⟩ := hr bp e.symm
    rw [h2] at ho1
    cases ho1
    cases ho2
  case assign =>
    intro l2 k x X K _ hK
    obtain ⟨mx, ⟨an, aM, asA, asc, ass, acA, acc, acs, avA, avc, avs⟩, bn, bM, bsA, bsc, bss, bcA, bcc, bcs, bvA, bvc, bvs⟩ := x
    obtain ⟨mA, mc, ml⟩ := mx
    unfold encSpT
    simp only [cellsT, encT, V4.Ck.v, V4.Vl.n, V4.Vl.m, V4.Vl.s1, V4.Vl.c1, V4.Vl.v1] at hK ⊢
    gi_wp2
    exact hK _ _ (allocB _ _) ⟨X.heap.size, rfl, Blk.new _ _ _⟩
  case body =>
    rintro l2 k X x a' U hUs hxk hI ⟨bp, rfl, hbx⟩
    obtain ⟨vm, vv, out, hD, hH, hall, hlen, hk40⟩ := hI.ex
    subst hlen
    obtain ⟨A, c, rfl, hA⟩ := row_form hH.rm
    obtain ⟨A2, c2, rfl, hA2⟩ := row_form hH.rv
    have i0 := hI.bs
    have i4 := hI.b4
    have i5 := hI.b5
    have HB := Lib.hid hI.bel
    have HH := Lib.hid hH
    have HA := Lib.hid hall
    have HXK := Lib.hid hxk
    have HI := Lib.hid hI
    have HA1 := Lib.hid hA
    have HA2 := Lib.hid hA2
    clear hI hH hall hxk hA hA2
    have c0 : U.cell? ⟨w.heap.size + 1 + 1 + 1, 0, none⟩ = some (.slice A out.length c) := blk_cell hD 0 _ rfl
    have c1 : U.cell? ⟨w.heap.size + 1 + 1 + 1, 1, none⟩ = some (.slice A2 out.length c2) := blk_cell hD 1 _ rfl
    by_cases h40 : out.length = 40
    · have hq : ((out.length : Int) == 40) = true := beq_iff_eq.2 (by omega)
      have d0 : U.cell? ⟨w.heap.size + 1, 0, none⟩ = some (.slice none 0 0) := blk_cell i4 0 _ rfl
      have d1 : U.cell? ⟨w.heap.size + 1, 1, none⟩ = some (.slice none 0 0) := blk_cell i4 1 _ rfl
      have d2 : U.cell? ⟨w.heap.size + 1 + 1, 0, none⟩ = some .nilIface := blk_cell i5 0 _ rfl
      have f0 := blk_frozen i4 0
      have f1 := blk_frozen i4 1
      have f2 := blk_frozen i5 0
      gi_wp2_with fail
      refine ⟨((KF.set' (by omega) _ _).trans (KF.set' (by omega) _ _)).trans (KF.set' (by omega) _ _), rfl, ((i4.set 0 _).set 1 _).other (by omega) 0 _, ((i5.other (by omega) 0 _).other (by omega) 1 _).set 0 _, ?_, ((HB.out.setCell (by simp) _).setCell (by simp) _).setCell (by simp only; omega) _⟩
      have := (List.getElem?_eq_some_iff.1 HXK.out).1
      unfold togE
      rw [if_pos (by simp; omega)]
    · have hq : ((out.length : Int) == 40) = false := beq_eq_false_iff_ne.2 (by omega)
      obtain ⟨x0, hx0⟩ : ∃ x0, x0 = x := ⟨_, rfl⟩
      have HC := Lib.hid (HJ.out x (List.mem_of_getElem? HXK.out) U HB.out)
      rw [← hx0] at HXK
      obtain ⟨fo, hfo⟩ : ∃ fo, f x.2.1.er x.2.2.er = fo := ⟨_, rfl⟩
      have HF := Lib.hid hfo
      rw [hfo] at HC
      rw [← hx0] at HF
      clear hfo
      obtain ⟨mx, ⟨an, aM, asA, asc, ass, acA, acc, acs, avA, avc, avs⟩, bn, bM, bsA, bsc, bss, bcA, bcc, bcs, bvA, bvc, bvs⟩ := x
      obtain ⟨mA, mc, ml⟩ := mx
      have HX0 := Lib.hid hx0
      clear hx0
      simp only [cellsT, encT, V4.Ck.v, V4.Vl.n, V4.Vl.m, V4.Vl.s1, V4.Vl.c1, V4.Vl.v1, val_mk] at HC hbx ⊢
      have s0 : U.cell? ⟨w.heap.size, 0, none⟩ = some (.int .i64 sk) := blk_cell i0 0 _ rfl
      have s1 : U.cell? ⟨w.heap.size, 1, none⟩ = some (.slice sA sl.length sc) := blk_cell i0 1 _ rfl
      have e1 : U.cell? ⟨bp, 1, none⟩ = some (.int .u64 an) := blk_cell hbx 1 _ rfl
      have e2 : U.cell? ⟨bp, 2, none⟩ = some (.int .u64 aM) := blk_cell hbx 2 _ rfl
      have e3 : U.cell? ⟨bp, 3, none⟩ = some (.slice asA ass.length asc) := blk_cell hbx 3 _ rfl
      have e4 : U.cell? ⟨bp, 4, none⟩ = some (.slice acA acs.length acc) := blk_cell hbx 4 _ rfl
      have e5 : U.cell? ⟨bp, 5, none⟩ = some (.slice avA avs.length avc) := blk_cell hbx 5 _ rfl
      have e6 : U.cell? ⟨bp, 6, none⟩ = some (.int .u64 bn) := blk_cell hbx 6 _ rfl
      have e7 : U.cell? ⟨bp, 7, none⟩ = some (.int .u64 bM) := blk_cell hbx 7 _ rfl
      have e8 : U.cell? ⟨bp, 8, none⟩ = some (.slice bsA bss.length bsc) := blk_cell hbx 8 _ rfl
      have e9 : U.cell? ⟨bp, 9, none⟩ = some (.slice bcA bcs.length bcc) := blk_cell hbx 9 _ rfl
      have e10 : U.cell? ⟨bp, 10, none⟩ = some (.slice bvA bvs.length bvc) := blk_cell hbx 10 _ rfl
      gi_wp2_with fail
      refine ⟨trivial, rfl, (CallsIn.inRound l2 (callsIn_wide.2 HC.out)).mono ?_⟩
      clear e1 e2 e3 e4 e5 e6 e7 e8 e9 e10 s0 s1 HC c0 c1
      rintro e U1 (⟨y, rfl, rfl, hy, hb1⟩ | ⟨rfl, rfl, hb1⟩)
      · obtain ⟨yn, ym, ysA, ysc, yss, ycA, ycc, ycs, yvA, yvc, yvs⟩ := y
        rw [val_mk]
        have HY := Lib.hid hy
        clear hy
        obtain ⟨V1, hV1⟩ : ∃ V1, U1.alloc (.cells #[.int .u64 yn, .int .u64 ym, .slice ysA yss.length ysc, .slice ycA ycs.length ycc, .slice yvA yvs.length yvc] 29) = V1 := ⟨_, rfl⟩
        have hmx : Tryz.prog.follows .mixedOrders = true := by kernel_rfl
        have hb2 : Below U.heap.size U V1 := by rw [← hV1]; exact belAl hb1
        have hbs := hb1.size
        have hHV := HH.out.below hb2
        have hbv : Blk V1 U1.heap.size 29 #[.int .u64 yn, .int .u64 ym, .slice ysA yss.length ysc, .slice ycA ycs.length ycc, .slice yvA yvs.length yvc] := by rw [← hV1]; exact Blk.new _ _ _
        have hDV := hD.below hb2
        have hbxV := hbx.below hb2
        have nD1 : some (w.heap.size + 1 + 1 + 1) ≠ (Value.slice A out.length c).ownBlock := fun e => by have := (HH.out.rm.lt _ e.symm).1; omega
        have nD2 : some (w.heap.size + 1 + 1 + 1) ≠ (Value.slice A2 out.length c2).ownBlock := fun e => by have := (HH.out.rv.lt _ e.symm).1; omega
        have nb1 : some bp ≠ (Value.slice A out.length c).ownBlock := row_type HH.out.rm hbx (by decide)
        have nb2 : some bp ≠ (Value.slice A2 out.length c2).ownBlock := row_type HH.out.rv hbx (by decide)
        have nv1 : some U1.heap.size ≠ (Value.slice A out.length c).ownBlock := fun e => by have := (HH.out.rm.lt _ e.symm).2; omega
        have nv2 : some U1.heap.size ≠ (Value.slice A2 out.length c2).ownBlock := fun e => by have := (HH.out.rv.lt _ e.symm).2; omega
        have HS : Hid (∀ (vm vv : Value) (nm nv : Nat) (ms vs : List Value) (W : World), Two 44 (w.heap.size + 4) V1 (.slice A out.length c) (.slice A2 out.length c2) vm vv nm nv ms vs W → (fun W => W.cell? ⟨w.heap.size + 1 + 1 + 1, 0, none⟩ = some (.slice A out.length c) ∧ W.cell? ⟨w.heap.size + 1 + 1 + 1, 1, none⟩ = some (.slice A2 out.length c2) ∧ W.cell? ⟨bp, 0, none⟩ = some (.slice mA ml.length mc)) W) := fun _ _ _ _ _ _ _ h => ⟨h.cell nD1 nD2 (blk_cell hDV 0 _ rfl), h.cell nD1 nD2 (blk_cell hDV 1 _ rfl), h.cell nb1 nb2 (blk_cell hbxV 0 _ rfl)⟩
        have HT : Hid (∀ (vm vv : Value) (nm nv : Nat) (ms vs : List Value) (W : World), Two 44 (w.heap.size + 4) V1 (.slice A out.length c) (.slice A2 out.length c2) vm vv nm nv ms vs W → (fun W => W.cell? ⟨U1.heap.size, 0, none⟩ = some (.int .u64 yn) ∧ W.cell? ⟨U1.heap.size, 1, none⟩ = some (.int .u64 ym) ∧ W.cell? ⟨U1.heap.size, 2, none⟩ = some (.slice ysA yss.length ysc) ∧ W.cell? ⟨U1.heap.size, 3, none⟩ = some (.slice ycA ycs.length ycc) ∧ W.cell? ⟨U1.heap.size, 4, none⟩ = some (.slice yvA yvs.length yvc)) W) := fun _ _ _ _ _ _ _ h => ⟨h.cell nv1 nv2 (blk_cell hbv 0 _ rfl), h.cell nv1 nv2 (blk_cell hbv 1 _ rfl), h.cell nv1 nv2 (blk_cell hbv 2 _ rfl), h.cell nv1 nv2 (blk_cell hbv 3 _ rfl), h.cell nv1 nv2 (blk_cell hbv 4 _ rfl)⟩
        have HT2 : Hid (∀ (W : World) (i : Nat) (v : Value), (fun W => W.cell? ⟨U1.heap.size, 0, none⟩ = some (.int .u64 yn) ∧ W.cell? ⟨U1.heap.size, 1, none⟩ = some (.int .u64 ym) ∧ W.cell? ⟨U1.heap.size, 2, none⟩ = some (.slice ysA yss.length ysc) ∧ W.cell? ⟨U1.heap.size, 3, none⟩ = some (.slice ycA ycs.length ycc) ∧ W.cell? ⟨U1.heap.size, 4, none⟩ = some (.slice yvA yvs.length yvc)) W → (fun W => W.cell? ⟨U1.heap.size, 0, none⟩ = some (.int .u64 yn) ∧ W.cell? ⟨U1.heap.size, 1, none⟩ = some (.int .u64 ym) ∧ W.cell? ⟨U1.heap.size, 2, none⟩ = some (.slice ysA yss.length ysc) ∧ W.cell? ⟨U1.heap.size, 3, none⟩ = some (.slice ycA ycs.length ycc) ∧ W.cell? ⟨U1.heap.size, 4, none⟩ = some (.slice yvA yvs.length yvc)) (W.setCell ⟨w.heap.size + 1 + 1 + 1, i, none⟩ v)) := fun W i v ⟨h0, h1, h2, h3, h4⟩ => by
          have hne : w.heap.size + 1 + 1 + 1 ≠ U1.heap.size := by have := hD.lt; omega
          exact ⟨(World.cell?_setCell_far _ _ _ _ hne).trans h0, (World.cell?_setCell_far _ _ _ _ hne).trans h1, (World.cell?_setCell_far _ _ _ _ hne).trans h2, (World.cell?_setCell_far _ _ _ _ hne).trans h3, (World.cell?_setCell_far _ _ _ _ hne).trans h4⟩
        obtain ⟨Vd, hVd⟩ : ∃ Vd, V1.drew = Vd := ⟨_, rfl⟩
        have hsd : Hid (Vd.heap.size = V1.heap.size) := by rw [← hVd]; exact rfl
        have t0 := Lib.hid (Two.start hHV)
        rw [hVd] at t0
        have HDV := Lib.hid hDV
        have HHV := Lib.hid hHV
        have HN := Lib.hid (And.intro nD1 (And.intro nD2 (And.intro nb1 (And.intro nb2 (And.intro nv1 nv2)))))
        obtain ⟨i1, hi, hz0, hz1, hz2⟩ := info_parts Tryz.infoTs
        obtain ⟨i2, hi2, hy0, hy1, hy2⟩ := info_parts Tryz.infoVal
        have hbaseV : w.heap.size + 4 ≤ V1.heap.size := by have := hb2.size; omega
        have hl40 : out.length ≤ 39 := by omega
        clear hbv hDV hbxV nD1 nD2 nb1 nb2 nv1 nv2 hHV
        gi_wp2_with fail
        refine wpIn_region_C (fun j => decide (12 ≤ j)) (fun W => W.cell? ⟨w.heap.size + 1 + 1 + 1, 0, none⟩ = some (.slice A out.length c) ∧ W.cell? ⟨w.heap.size + 1 + 1 + 1, 1, none⟩ = some (.slice A2 out.length c2) ∧ W.cell? ⟨bp, 0, none⟩ = some (.slice mA ml.length mc)) (fun W => W.cell? ⟨U1.heap.size, 0, none⟩ = some (.int .u64 yn) ∧ W.cell? ⟨U1.heap.size, 1, none⟩ = some (.int .u64 ym) ∧ W.cell? ⟨U1.heap.size, 2, none⟩ = some (.slice ysA yss.length ysc) ∧ W.cell? ⟨U1.heap.size, 3, none⟩ = some (.slice ycA ycs.length ycc) ∧ W.cell? ⟨U1.heap.size, 4, none⟩ = some (.slice yvA yvs.length yvc)) hmx (fun ⟨_, _, h⟩ => h) (by kernel_rfl) ?_
        rw [hVd]
        clear hVd
        have hS0 := HS.out _ _ _ _ _ _ _ t0.out
        have hT0 := HT.out _ _ _ _ _ _ _ t0.out
        refine takeA 0 31 (v := ?v0) rfl rfl (by kernel_rfl) (by kernel_rfl) (by kernel_rfl) rfl (by kernel_rfl) (by kernel_rfl) (fun _ _ _ h => h) (Or.inl ⟨by rfl, ?h0⟩) hT0 hS0 ?r0
        case h0 => (intro w hSw; (try dsimp only at hSw); go_simp; try (with_reducible rfl))
        simp only [List.set_cons_zero, List.set_cons_succ]
        refine takeA 1 32 (v := ?v1) rfl rfl (by kernel_rfl) (by kernel_rfl) (by kernel_rfl) rfl (by kernel_rfl) (by kernel_rfl) (fun _ _ _ h => h) (Or.inl ⟨by rfl, ?h1⟩) hT0 hS0 ?r1
        case h1 => (intro w hSw; (try dsimp only at hSw); go_simp; try (with_reducible rfl))
        simp only [List.set_cons_zero, List.set_cons_succ]
        refine takeA 2 33 (v := ?v2) rfl rfl (by kernel_rfl) (by kernel_rfl) (by kernel_rfl) rfl (by kernel_rfl) (by kernel_rfl) (fun _ _ _ h => h) (Or.inl ⟨by rfl, ?h2⟩) hT0 hS0 ?r2
        case h2 => (intro w hSw; (try dsimp only at hSw); go_simp; try (with_reducible rfl))
        simp only [List.set_cons_zero, List.set_cons_succ]
        refine takeA 3 34 (v := ?v3) rfl rfl (by kernel_rfl) (by kernel_rfl) (by kernel_rfl) rfl (by kernel_rfl) (by kernel_rfl) (fun _ _ _ h => h) (Or.inl ⟨by rfl, ?h3⟩) hT0 hS0 ?r3
        case h3 => (intro w hSw; (try dsimp only at hSw); go_simp; try (with_reducible rfl))
        simp only [List.set_cons_zero, List.set_cons_succ]
        refine takeA 6 37 (v := ?v6) rfl rfl (by kernel_rfl) (by kernel_rfl) (by kernel_rfl) rfl (by kernel_rfl) (by kernel_rfl) (fun _ _ _ h => h) (Or.inl ⟨by rfl, ?h6⟩) hT0 hS0 ?r6
        case h6 => (intro w hSw; (try dsimp only at hSw); go_simp; try (with_reducible rfl))
        simp only [List.set_cons_zero, List.set_cons_succ]
        refine takeA 7 38 (v := ?v7) rfl rfl (by kernel_rfl) (by kernel_rfl) (by kernel_rfl) rfl (by kernel_rfl) (by kernel_rfl) (fun _ _ _ h => h) (Or.inl ⟨by rfl, ?h7⟩) hT0 hS0 ?r7
        case h7 => (intro w hSw; (try dsimp only at hSw); go_simp; try (with_reducible rfl))
        simp only [List.set_cons_zero, List.set_cons_succ]
        refine takeB 8 39 (v := ?v8) rfl rfl (by kernel_rfl) (by kernel_rfl) (by kernel_rfl) rfl (fun _ _ _ h => h) (Or.inl ⟨by rfl, ?h8⟩) hT0 hS0 ?r8
        case h8 => (intro w hSw; (try dsimp only at hSw); go_simp; try (with_reducible rfl))
        simp only [List.set_cons_zero, List.set_cons_succ]
        have HEND : Hid (∀ (a : Act) (A3 : Option Addr) (c3 : Nat) (A4 : Option Addr) (c4 : Nat) {W9 : World}, Two 44 (w.heap.size + 4) V1 (.slice A out.length c) (.slice A2 out.length c2) (.slice A3 (out.length + 1) c3) (.slice A4 (out.length + 1) c4) (out.length + 1) (out.length + 1) ((out.map fun p => encT p.1) ++ [(.slice mA ml.length mc)]) (cellsV (out.map (·.2)) ++ [.int .u64 yn, .int .u64 ym, .slice ysA yss.length ysc, .slice ycA ycs.length ycc, .slice yvA yvs.length yvc]) W9 → Blk W9 (w.heap.size + 1 + 1 + 1) 130 #[.slice A out.length c, .slice A2 out.length c2] → postP w.heap.size V.heap.size X (TgT w #[.int .i64 sk, .slice sA sl.length sc] f zs) (fun c _ W => TxT w f zs c W) out.length U .normal a ((W9.setCell ⟨w.heap.size + 1 + 1 + 1, 0, none⟩ (.slice A3 (out.length + 1) c3)).setCell ⟨w.heap.size + 1 + 1 + 1, 1, none⟩ (.slice A4 (out.length + 1) c4))) := by
          intro a A3 c3 A4 c4 W9 t9 h9
          obtain ⟨W2, hW2⟩ : ∃ W2, (W9.setCell ⟨w.heap.size + 1 + 1 + 1, 0, none⟩ (.slice A3 (out.length + 1) c3)).setCell ⟨w.heap.size + 1 + 1 + 1, 1, none⟩ (.slice A4 (out.length + 1) c4) = W2 := ⟨_, rfl⟩
          have hlow : ∀ b, b ≠ w.heap.size + 1 + 1 + 1 → W2.heap[b]? = W9.heap[b]? := fun b n1 => by
            rw [← hW2, Below.heap_setCell _ _ _ _ (by simpa using n1), Below.heap_setCell _ _ _ _ (by simpa using n1)]
          have hsz2 : W2.heap.size = W9.heap.size := by rw [← hW2]; simp
          have h92 : Blk W2 (w.heap.size + 1 + 1 + 1) 130 #[.slice A3 (out.length + 1) c3, .slice A4 (out.length + 1) c4] := by rw [← hW2]; exact (h9.set 0 _).set 1 _
          rw [hW2]
          have hy2 := (HY.out.keep fun b hP => (show V1.heap[b]? = U1.heap[b]? from by rw [← hV1]; exact Below.heap_alloc _ _ _ hP.2)).mono (Q := fun b => U.heap.size ≤ b ∧ b < V1.heap.size) fun b hP => ⟨hP.1, by rw [← hV1]; simp; omega⟩
          have hfin := Two.fin (m := ⟨mA, mc, ml⟩) HH.out hb2 hy2 t9 hlow hsz2 (by omega) (by omega)
          have hkp : KP w.heap.size (w.heap.size + 4) X U W2 := Two.kp HH.out hb2 t9 hlow hsz2 (by omega) (by omega)
          have hrest : ∀ b t cs, Blk U b t cs → b < w.heap.size + 1 + 1 + 1 → Blk W2 b t cs := fun b t cs hk hb => by
            have n1 : some b ≠ (Value.slice A out.length c).ownBlock := fun e => by have := (HH.out.rm.lt _ e.symm).1; omega
            have n2 : some b ≠ (Value.slice A2 out.length c2).ownBlock := fun e => by have := (HH.out.rv.lt _ e.symm).1; omega
            exact ((hlow b (by omega)).trans (t9.same b (hk.below hb2).lt n1 n2)).trans (hk.below hb2)
          have hbel : Below w.heap.size w W2 := by
            have h1 := HB.out.trans (hb2.mono (by omega))
            refine ⟨by rw [← hW2]; exact t9.os.trans h1.os, by rw [← hW2]; exact t9.tape.trans h1.tape, by rw [← hW2]; exact t9.output.trans h1.output, by have := h1.size; have := t9.size; omega, fun b hb => ?_⟩
            have n1 : some b ≠ (Value.slice A out.length c).ownBlock := fun e => by have := (HH.out.rm.lt _ e.symm).1; omega
            have n2 : some b ≠ (Value.slice A2 out.length c2).ownBlock := fun e => by have := (HH.out.rv.lt _ e.symm).1; omega
            rw [hlow b (by omega), t9.same b (by have := hb2.size; omega) n1 n2]
            exact h1.block b hb
          refine ⟨by rw [hsz]; exact hkp, _, fun b hb => ?_, ⟨hrest _ _ _ i0 (by omega), hrest _ _ _ i4 (by omega), hrest _ _ _ i5 (by omega), ⟨_, _, _, h92, hfin, ?_, by simp, by omega⟩, hbel⟩⟩
          · exact hb.imp id fun h => h.1
          · have hp : (zs.map er3T)[out.length]? = some (er3T x0) := by rw [List.getElem?_map, HXK.out]; rfl
            rw [allE_step hp HA.out, HX0.out]
            have hf := HF.out
            rw [HX0.out] at hf
            simp only [er3T]
            simp only at hf
            rw [hf, Option.map_some, List.map_append]
            rfl
        refine wpAnyC_ready (rs := [4, 9]) (by kernel_rfl) (by simp) ?_
        refine AllReadyC.cons rfl (fun K hK => ?g1) (AllReadyC.cons rfl (fun K hK => ?g2) AllReadyC.nil)
        case g1 =>
          go_simp
          have t1 := Lib.hid (t0.out.alloc (.cells #[(.slice mA ml.length mc)] 44))
          have hm : Cells (Vd.alloc (.cells #[(.slice mA ml.length mc)] 44)) Vd.heap.size [(.slice mA ml.length mc)] := Cells.new _ _ _
          refine hK.out _ _ (HT.out _ _ _ _ _ _ _ t1.out) (fun _ => HS.out _ _ _ _ _ _ _ t1.out) ?_
          clear hK
          obtain ⟨W1, hW1⟩ : ∃ W1, Vd.alloc (.cells #[(.slice mA ml.length mc)] 44) = W1 := ⟨_, rfl⟩
          rw [hW1] at t1 hm ⊢
          have hsW1 : Vd.heap.size < W1.heap.size := by rw [← hW1]; simp
          refine wpAnyC_ready (rs := [5, 9]) (by kernel_rfl) (by simp) ?_
          refine AllReadyC.cons rfl (fun K hK => ?g3) (AllReadyC.cons rfl (fun K hK => ?g4) AllReadyC.nil)
          case g3 =>
            refine step_appAt rfl (.tmp 32) (.tmp 35) 26 rfl (w.heap.size + 4) 44 i1 (.slice none 0 0) 1 24 Tryz.underlying26 hi hz0 hz1 hz2 rfl (by decide) (.slice A out.length c) _ _ rfl t1.out.rm ⟨Vd.heap.size, 0, none⟩ 1 1 [(.slice mA ml.length mc)] rfl rfl hm (by simp [Value.oneCell']) (by unfold maxLen; omega) (by omega) (Nat.le_trans hbaseV t1.out.size) ?_
            intro vm1 W2 hr1 hg1 ho1
            have t2 := Lib.hid (t1.out.appM hr1 hg1 ho1 rfl)
            refine hK.out _ _ (HT.out _ _ _ _ _ _ _ t2.out) (fun _ => HS.out _ _ _ _ _ _ _ t2.out) ?_
            clear hK
            simp only [Act.put, List.setIfInBounds_toArray]
            refine takeA 11 42 (v := ?w1) rfl rfl (by kernel_rfl) (by kernel_rfl) (by kernel_rfl) rfl (by kernel_rfl) (by kernel_rfl) (fun _ _ _ h => h) (Or.inl ⟨by rfl, ?u1⟩) (HT.out _ _ _ _ _ _ _ t2.out) (HS.out _ _ _ _ _ _ _ t2.out) ?x1
            case u1 => (intro w hSw; (try dsimp only at hSw); go_simp; try (with_reducible rfl))
            simp only [List.set_cons_zero, List.set_cons_succ]
            have hsW2 : V1.heap.size ≤ W2.heap.size := t2.out.size
            refine wpAnyC_ready (rs := [9]) (by kernel_rfl) (by simp) ?_
            refine AllReadyC.cons rfl (fun K hK => ?_) AllReadyC.nil
            go_simp
            have t3 := Lib.hid (t2.out.alloc (.cells #[.int .u64 yn, .int .u64 ym, .slice ysA yss.length ysc, .slice ycA ycs.length ycc, .slice yvA yvs.length yvc] 29))
            have hv : Cells (W2.alloc (.cells #[.int .u64 yn, .int .u64 ym, .slice ysA yss.length ysc, .slice ycA ycs.length ycc, .slice yvA yvs.length yvc] 29)) W2.heap.size [.int .u64 yn, .int .u64 ym, .slice ysA yss.length ysc, .slice ycA ycs.length ycc, .slice yvA yvs.length yvc] := Cells.new _ _ _
            refine hK.out _ _ (HT.out _ _ _ _ _ _ _ t3.out) (fun _ => HS.out _ _ _ _ _ _ _ t3.out) ?_
            clear hK
            obtain ⟨W3, hW3⟩ : ∃ W3, W2.alloc (.cells #[.int .u64 yn, .int .u64 ym, .slice ysA yss.length ysc, .slice ycA ycs.length ycc, .slice yvA yvs.length yvc] 29) = W3 := ⟨_, rfl⟩
            rw [hW3] at t3 hv ⊢
            refine wpAnyC_ready (rs := [10]) (by kernel_rfl) (by simp) ?_
            refine AllReadyC.cons rfl (fun K hK => ?_) AllReadyC.nil
            obtain ⟨A3, c3, hA3, _⟩ := row_form t3.out.rm
            subst hA3
            refine step_appAt rfl (.tmp 38) (.tmp 40) 27 rfl (w.heap.size + 4) 29 i2 _ 5 88 Tryz.underlying27 hi2 hy0 hy1 hy2 rfl (by decide) (.slice A2 out.length c2) _ _ rfl t3.out.rv ⟨W2.heap.size, 0, none⟩ 1 1 [.int .u64 yn, .int .u64 ym, .slice ysA yss.length ysc, .slice ycA ycs.length ycc, .slice yvA yvs.length yvc] rfl rfl hv (by simp [Value.oneCell']) (by unfold maxLen; omega) (by omega) (Nat.le_trans hbaseV t3.out.size) ?_
            intro vv1 W9 hr2 hg2 ho2
            have t4 := Lib.hid (t3.out.appV hr2 hg2 ho2 rfl)
            obtain ⟨A4, c4, hA4, _⟩ := row_form t4.out.rv
            subst hA4
            have hT9 := HT.out _ _ _ _ _ _ _ t4.out
            refine hK.out _ _ hT9 (fun _ => HS.out _ _ _ _ _ _ _ t4.out) ?_
            clear hK
            simp only [Act.put, List.setIfInBounds_toArray]
            have hD9 : Blk W9 (w.heap.size + 1 + 1 + 1) 130 #[.slice A out.length c, .slice A2 out.length c2] := (t4.out.same _ (HDV.out.lt) HN.out.1 HN.out.2.1).trans HDV.out
            have g0 : W9.cell? ⟨w.heap.size + 1 + 1 + 1, 0, none⟩ = some (.slice A out.length c) := blk_cell hD9 0 _ rfl
            have g1 : W9.cell? ⟨w.heap.size + 1 + 1 + 1, 1, none⟩ = some (.slice A2 out.length c2) := blk_cell hD9 1 _ rfl
            have g2 := blk_frozen hD9 0
            have g3 := blk_frozen hD9 1
            have HD9 := Lib.hid hD9
            clear hD9
            refine wpAnyC_ready (rs := [12]) (by kernel_rfl) (by simp) ?_
            refine AllReadyC.cons rfl (fun K hK => ?_) AllReadyC.nil
            go_simp
            refine hK.out _ _ (HT2.out _ _ _ hT9) (fun h => absurd (Eq.trans h.symm (by kernel_rfl)) Bool.false_ne_true) ?_
            clear hK
            refine wpAnyC_ready (rs := [13]) (by kernel_rfl) (by simp) ?_
            refine AllReadyC.cons rfl (fun K hK => ?_) AllReadyC.nil
            go_simp
            refine hK.out _ _ (HT2.out _ _ _ hT9) (fun h => absurd (Eq.trans h.symm (by kernel_rfl)) Bool.false_ne_true) ?_
            clear hK
            refine wpAnyC_ready (rs := [14]) (by kernel_rfl) (by simp) ?_
            refine AllReadyC.cons rfl (fun K hK => ?_) AllReadyC.nil
            go_simp
            refine hK.out _ _ (HT2.out _ _ _ (HT2.out _ _ _ hT9)) (fun h => absurd (Eq.trans h.symm (by kernel_rfl)) Bool.false_ne_true) ?_
            clear hK
            refine wpAnyC_done (by kernel_rfl) ?_ _
            exact HEND.out ⟨#[], []⟩ _ _ _ _ t4.out HD9.out
          case g4 =>
            go_simp
            have t2 := Lib.hid (t1.out.alloc (.cells #[.int .u64 yn, .int .u64 ym, .slice ysA yss.length ysc, .slice ycA ycs.length ycc, .slice yvA yvs.length yvc] 29))
            have hv : Cells (W1.alloc (.cells #[.int .u64 yn, .int .u64 ym, .slice ysA yss.length ysc, .slice ycA ycs.length ycc, .slice yvA yvs.length yvc] 29)) W1.heap.size [.int .u64 yn, .int .u64 ym, .slice ysA yss.length ysc, .slice ycA ycs.length ycc, .slice yvA yvs.length yvc] := Cells.new _ _ _
            refine hK.out _ _ (HT.out _ _ _ _ _ _ _ t2.out) (fun _ => HS.out _ _ _ _ _ _ _ t2.out) ?_
            clear hK
            obtain ⟨W2, hW2⟩ : ∃ W2, W1.alloc (.cells #[.int .u64 yn, .int .u64 ym, .slice ysA yss.length ysc, .slice ycA ycs.length ycc, .slice yvA yvs.length yvc] 29) = W2 := ⟨_, rfl⟩
            replace hm := hm.alloc (.cells #[.int .u64 yn, .int .u64 ym, .slice ysA yss.length ysc, .slice ycA ycs.length ycc, .slice yvA yvs.length yvc] 29)
            rw [hW2] at t2 hv hm ⊢
            refine wpAnyC_ready (rs := [5]) (by kernel_rfl) (by simp) ?_
            refine AllReadyC.cons rfl (fun K hK => ?_) AllReadyC.nil
            refine step_appAt rfl (.tmp 32) (.tmp 35) 26 rfl (w.heap.size + 4) 44 i1 (.slice none 0 0) 1 24 Tryz.underlying26 hi hz0 hz1 hz2 rfl (by decide) (.slice A out.length c) _ _ rfl t2.out.rm ⟨Vd.heap.size, 0, none⟩ 1 1 [(.slice mA ml.length mc)] rfl rfl hm (by simp [Value.oneCell']) (by unfold maxLen; omega) (by omega) (Nat.le_trans hbaseV t2.out.size) ?_
            intro vm1 W3 hr1 hg1 ho1
            have t3 := Lib.hid (t2.out.appM hr1 hg1 ho1 rfl)
            refine hK.out _ _ (HT.out _ _ _ _ _ _ _ t3.out) (fun _ => HS.out _ _ _ _ _ _ _ t3.out) ?_
            clear hK
            simp only [Act.put, List.setIfInBounds_toArray]
            refine takeA 11 42 (v := ?w2) rfl rfl (by kernel_rfl) (by kernel_rfl) (by kernel_rfl) rfl (by kernel_rfl) (by kernel_rfl) (fun _ _ _ h => h) (Or.inl ⟨by rfl, ?u2⟩) (HT.out _ _ _ _ _ _ _ t3.out) (HS.out _ _ _ _ _ _ _ t3.out) ?x2
            case u2 => (intro w hSw; (try dsimp only at hSw); go_simp; try (with_reducible rfl))
            simp only [List.set_cons_zero, List.set_cons_succ]
            replace hv := hv.grown hg1 fun e => (by have h1 := (HHV.out.rm.lt _ e.symm).2; have h2 := hsd.out; omega)
            refine wpAnyC_ready (rs := [10]) (by kernel_rfl) (by simp) ?_
            refine AllReadyC.cons rfl (fun K hK => ?_) AllReadyC.nil
            obtain ⟨A3, c3, hA3, _⟩ := row_form t3.out.rm
            subst hA3
            refine step_appAt rfl (.tmp 38) (.tmp 40) 27 rfl (w.heap.size + 4) 29 i2 _ 5 88 Tryz.underlying27 hi2 hy0 hy1 hy2 rfl (by decide) (.slice A2 out.length c2) _ _ rfl t3.out.rv ⟨W1.heap.size, 0, none⟩ 1 1 [.int .u64 yn, .int .u64 ym, .slice ysA yss.length ysc, .slice ycA ycs.length ycc, .slice yvA yvs.length yvc] rfl rfl hv (by simp [Value.oneCell']) (by unfold maxLen; omega) (by omega) (Nat.le_trans hbaseV t3.out.size) ?_
            intro vv1 W9 hr2 hg2 ho2
            have t4 := Lib.hid (t3.out.appV hr2 hg2 ho2 rfl)
            obtain ⟨A4, c4, hA4, _⟩ := row_form t4.out.rv
            subst hA4
            have hT9 := HT.out _ _ _ _ _ _ _ t4.out
            refine hK.out _ _ hT9 (fun _ => HS.out _ _ _ _ _ _ _ t4.out) ?_
            clear hK
            simp only [Act.put, List.setIfInBounds_toArray]
            have hD9 : Blk W9 (w.heap.size + 1 + 1 + 1) 130 #[.slice A out.length c, .slice A2 out.length c2] := (t4.out.same _ (HDV.out.lt) HN.out.1 HN.out.2.1).trans HDV.out
            have g0 : W9.cell? ⟨w.heap.size + 1 + 1 + 1, 0, none⟩ = some (.slice A out.length c) := blk_cell hD9 0 _ rfl
            have g1 : W9.cell? ⟨w.heap.size + 1 + 1 + 1, 1, none⟩ = some (.slice A2 out.length c2) := blk_cell hD9 1 _ rfl
            have g2 := blk_frozen hD9 0
            have g3 := blk_frozen hD9 1
            have HD9 := Lib.hid hD9
            clear hD9
            refine wpAnyC_ready (rs := [12]) (by kernel_rfl) (by simp) ?_
            refine AllReadyC.cons rfl (fun K hK => ?_) AllReadyC.nil
            go_simp
            refine hK.out _ _ (HT2.out _ _ _ hT9) (fun h => absurd (Eq.trans h.symm (by kernel_rfl)) Bool.false_ne_true) ?_
            clear hK
            refine wpAnyC_ready (rs := [13]) (by kernel_rfl) (by simp) ?_
            refine AllReadyC.cons rfl (fun K hK => ?_) AllReadyC.nil
            go_simp
            refine hK.out _ _ (HT2.out _ _ _ hT9) (fun h => absurd (Eq.trans h.symm (by kernel_rfl)) Bool.false_ne_true) ?_
            clear hK
            refine wpAnyC_ready (rs := [14]) (by kernel_rfl) (by simp) ?_
            refine AllReadyC.cons rfl (fun K hK => ?_) AllReadyC.nil
            go_simp
            refine hK.out _ _ (HT2.out _ _ _ (HT2.out _ _ _ hT9)) (fun h => absurd (Eq.trans h.symm (by kernel_rfl)) Bool.false_ne_true) ?_
            clear hK
            refine wpAnyC_done (by kernel_rfl) ?_ _
            exact HEND.out ⟨#[], []⟩ _ _ _ _ t4.out HD9.out
        case g2 =>
          go_simp
          have t1 := Lib.hid (t0.out.alloc (.cells #[.int .u64 yn, .int .u64 ym, .slice ysA yss.length ysc, .slice ycA ycs.length ycc, .slice yvA yvs.length yvc] 29))
          have hv : Cells (Vd.alloc (.cells #[.int .u64 yn, .int .u64 ym, .slice ysA yss.length ysc, .slice ycA ycs.length ycc, .slice yvA yvs.length yvc] 29)) Vd.heap.size [.int .u64 yn, .int .u64 ym, .slice ysA yss.length ysc, .slice ycA ycs.length ycc, .slice yvA yvs.length yvc] := Cells.new _ _ _
          refine hK.out _ _ (HT.out _ _ _ _ _ _ _ t1.out) (fun _ => HS.out _ _ _ _ _ _ _ t1.out) ?_
          clear hK
          obtain ⟨W1, hW1⟩ : ∃ W1, Vd.alloc (.cells #[.int .u64 yn, .int .u64 ym, .slice ysA yss.length ysc, .slice ycA ycs.length ycc, .slice yvA yvs.length yvc] 29) = W1 := ⟨_, rfl⟩
          rw [hW1] at t1 hv ⊢
          refine wpAnyC_ready (rs := [4]) (by kernel_rfl) (by simp) ?_
          refine AllReadyC.cons rfl (fun K hK => ?_) AllReadyC.nil
          go_simp
          have t2 := Lib.hid (t1.out.alloc (.cells #[(.slice mA ml.length mc)] 44))
          have hm : Cells (W1.alloc (.cells #[(.slice mA ml.length mc)] 44)) W1.heap.size [(.slice mA ml.length mc)] := Cells.new _ _ _
          refine hK.out _ _ (HT.out _ _ _ _ _ _ _ t2.out) (fun _ => HS.out _ _ _ _ _ _ _ t2.out) ?_
          clear hK
          obtain ⟨W2, hW2⟩ : ∃ W2, W1.alloc (.cells #[(.slice mA ml.length mc)] 44) = W2 := ⟨_, rfl⟩
          replace hv := hv.alloc (.cells #[(.slice mA ml.length mc)] 44)
          rw [hW2] at t2 hv hm ⊢
          refine wpAnyC_ready (rs := [5]) (by kernel_rfl) (by simp) ?_
          refine AllReadyC.cons rfl (fun K hK => ?_) AllReadyC.nil
          refine step_appAt rfl (.tmp 32) (.tmp 35) 26 rfl (w.heap.size + 4) 44 i1 (.slice none 0 0) 1 24 Tryz.underlying26 hi hz0 hz1 hz2 rfl (by decide) (.slice A out.length c) _ _ rfl t2.out.rm ⟨W1.heap.size, 0, none⟩ 1 1 [(.slice mA ml.length mc)] rfl rfl hm (by simp [Value.oneCell']) (by unfold maxLen; omega) (by omega) (Nat.le_trans hbaseV t2.out.size) ?_
          intro vm1 W3 hr1 hg1 ho1
          have t3 := Lib.hid (t2.out.appM hr1 hg1 ho1 rfl)
          refine hK.out _ _ (HT.out _ _ _ _ _ _ _ t3.out) (fun _ => HS.out _ _ _ _ _ _ _ t3.out) ?_
          clear hK
          simp only [Act.put, List.setIfInBounds_toArray]
          refine takeA 11 42 (v := ?w3) rfl rfl (by kernel_rfl) (by kernel_rfl) (by kernel_rfl) rfl (by kernel_rfl) (by kernel_rfl) (fun _ _ _ h => h) (Or.inl ⟨by rfl, ?u3⟩) (HT.out _ _ _ _ _ _ _ t3.out) (HS.out _ _ _ _ _ _ _ t3.out) ?x3
          case u3 => (intro w hSw; (try dsimp only at hSw); go_simp; try (with_reducible rfl))
          simp only [List.set_cons_zero, List.set_cons_succ]
          replace hv := hv.grown hg1 fun e => (by have h1 := (HHV.out.rm.lt _ e.symm).2; have h2 := hsd.out; omega)
          refine wpAnyC_ready (rs := [10]) (by kernel_rfl) (by simp) ?_
          refine AllReadyC.cons rfl (fun K hK => ?_) AllReadyC.nil
          obtain ⟨A3, c3, hA3, _⟩ := row_form t3.out.rm
          subst hA3
          refine step_appAt rfl (.tmp 38) (.tmp 40) 27 rfl (w.heap.size + 4) 29 i2 _ 5 88 Tryz.underlying27 hi2 hy0 hy1 hy2 rfl (by decide) (.slice A2 out.length c2) _ _ rfl t3.out.rv ⟨Vd.heap.size, 0, none⟩ 1 1 [.int .u64 yn, .int .u64 ym, .slice ysA yss.length ysc, .slice ycA ycs.length ycc, .slice yvA yvs.length yvc] rfl rfl hv (by simp [Value.oneCell']) (by unfold maxLen; omega) (by omega) (Nat.le_trans hbaseV t3.out.size) ?_
          intro vv1 W9 hr2 hg2 ho2
          have t4 := Lib.hid (t3.out.appV hr2 hg2 ho2 rfl)
          obtain ⟨A4, c4, hA4, _⟩ := row_form t4.out.rv
          subst hA4
          have hT9 := HT.out _ _ _ _ _ _ _ t4.out
          refine hK.out _ _ hT9 (fun _ => HS.out _ _ _ _ _ _ _ t4.out) ?_
          clear hK
          simp only [Act.put, List.setIfInBounds_toArray]
          have hD9 : Blk W9 (w.heap.size + 1 + 1 + 1) 130 #[.slice A out.length c, .slice A2 out.length c2] := (t4.out.same _ (HDV.out.lt) HN.out.1 HN.out.2.1).trans HDV.out
          have g0 : W9.cell? ⟨w.heap.size + 1 + 1 + 1, 0, none⟩ = some (.slice A out.length c) := blk_cell hD9 0 _ rfl
          have g1 : W9.cell? ⟨w.heap.size + 1 + 1 + 1, 1, none⟩ = some (.slice A2 out.length c2) := blk_cell hD9 1 _ rfl
          have g2 := blk_frozen hD9 0
          have g3 := blk_frozen hD9 1
          have HD9 := Lib.hid hD9
          clear hD9
          refine wpAnyC_ready (rs := [12]) (by kernel_rfl) (by simp) ?_
          refine AllReadyC.cons rfl (fun K hK => ?_) AllReadyC.nil
          go_simp
          refine hK.out _ _ (HT2.out _ _ _ hT9) (fun h => absurd (Eq.trans h.symm (by kernel_rfl)) Bool.false_ne_true) ?_
          clear hK
          refine wpAnyC_ready (rs := [13]) (by kernel_rfl) (by simp) ?_
          refine AllReadyC.cons rfl (fun K hK => ?_) AllReadyC.nil
          go_simp
          refine hK.out _ _ (HT2.out _ _ _ hT9) (fun h => absurd (Eq.trans h.symm (by kernel_rfl)) Bool.false_ne_true) ?_
          clear hK
          refine wpAnyC_ready (rs := [14]) (by kernel_rfl) (by simp) ?_
          refine AllReadyC.cons rfl (fun K hK => ?_) AllReadyC.nil
          go_simp
          refine hK.out _ _ (HT2.out _ _ _ (HT2.out _ _ _ hT9)) (fun h => absurd (Eq.trans h.symm (by kernel_rfl)) Bool.false_ne_true) ?_
          clear hK
          refine wpAnyC_done (by kernel_rfl) ?_ _
          exact HEND.out ⟨#[], []⟩ _ _ _ _ t4.out HD9.out
      · rw [vlZ_val]
        have hb2 : Below U.heap.size U (U1.alloc (.cells #[.int .u64 0, .int .u64 0, .slice none 0 0, .slice none 0 0, .slice none 0 0] 29)) := belAl hb1
        have k4 := i4.below hb2
        have k5 := i5.below hb2
        have d0 : (U1.alloc (.cells #[.int .u64 0, .int .u64 0, .slice none 0 0, .slice none 0 0, .slice none 0 0] 29)).cell? ⟨w.heap.size + 1, 0, none⟩ = some (.slice none 0 0) := blk_cell k4 0 _ rfl
        have d1 : (U1.alloc (.cells #[.int .u64 0, .int .u64 0, .slice none 0 0, .slice none 0 0, .slice none 0 0] 29)).cell? ⟨w.heap.size + 1, 1, none⟩ = some (.slice none 0 0) := blk_cell k4 1 _ rfl
        have d2 : (U1.alloc (.cells #[.int .u64 0, .int .u64 0, .slice none 0 0, .slice none 0 0, .slice none 0 0] 29)).cell? ⟨w.heap.size + 1 + 1, 0, none⟩ = some .nilIface := blk_cell k5 0 _ rfl
        have f0 : (U1.alloc (.cells #[.int .u64 0, .int .u64 0, .slice none 0 0, .slice none 0 0, .slice none 0 0] 29)).frozen? ⟨w.heap.size + 1, 0, none⟩ = false := blk_frozen k4 0
        have f1 : (U1.alloc (.cells #[.int .u64 0, .int .u64 0, .slice none 0 0, .slice none 0 0, .slice none 0 0] 29)).frozen? ⟨w.heap.size + 1, 1, none⟩ = false := blk_frozen k4 1
        have f2 : (U1.alloc (.cells #[.int .u64 0, .int .u64 0, .slice none 0 0, .slice none 0 0, .slice none 0 0] 29)).frozen? ⟨w.heap.size + 1 + 1, 0, none⟩ = false := blk_frozen k5 0
        clear k4 k5
        have e13 : errV 13 = .iface 51 (.int .i64 13) := rfl
        rw [e13]
        gi_wp2_with fail
        refine ⟨((KF.of_below hb2).trans (KF.set' (by omega) _ _)).trans ((KF.set' (by omega) _ _).trans (KF.set' (by omega) _ _)), rfl, (((i4.below hb2).set 0 _).set 1 _).other (by omega) 0 _, (((i5.below hb2).other (by omega) 0 _).other (by omega) 1 _).set 0 _, ?_, (((HB.out.trans (hb2.mono (by omega))).setCell (by simp) _).setCell (by simp) _).setCell (by simp only; omega) _⟩
        refine allE_none (k := out.length) (p := er3T x0) ?_ HA.out HF.out
        rw [List.getElem?_map, HXK.out]
        rfl
  case done =>
    rintro E X W hE hnE hI hD2
    obtain ⟨vm, vv, out, h1, h2, h3, h4, h5⟩ := hI.ex
    obtain ⟨A, c, rfl, _⟩ := row_form h2.rm
    obtain ⟨A2, c2, rfl, _⟩ := row_form h2.rv
    have i4 := hI.b4
    have i5 := hI.b5
    have HB := Lib.hid hI.bel
    have HH := Lib.hid h2
    have HA := Lib.hid h3
    have HL := Lib.hid (And.intro h4 h5)
    clear hI h2 h3 h4 h5
    have c0 : W.cell? ⟨w.heap.size + 1 + 1 + 1, 0, none⟩ = some (.slice A out.length c) := blk_cell h1 0 _ rfl
    have c1 : W.cell? ⟨w.heap.size + 1 + 1 + 1, 1, none⟩ = some (.slice A2 out.length c2) := blk_cell h1 1 _ rfl
    have d0 : W.cell? ⟨w.heap.size + 1, 0, none⟩ = some (.slice none 0 0) := blk_cell i4 0 _ rfl
    have d1 : W.cell? ⟨w.heap.size + 1, 1, none⟩ = some (.slice none 0 0) := blk_cell i4 1 _ rfl
    have d2 : W.cell? ⟨w.heap.size + 1 + 1, 0, none⟩ = some .nilIface := blk_cell i5 0 _ rfl
    have f0 := blk_frozen i4 0
    have f1 := blk_frozen i4 1
    have f2 := blk_frozen i5 0
    have HW : Hid (Blk (((W.setCell ⟨w.heap.size + 1, 0, none⟩ (.slice A out.length c)).setCell ⟨w.heap.size + 1, 1, none⟩ (.slice A2 out.length c2)).setCell ⟨w.heap.size + 1 + 1, 0, none⟩ .nilIface) (w.heap.size + 1) 130 #[.slice A out.length c, .slice A2 out.length c2]) := ((i4.set 0 _).set 1 _).other (by omega) 0 _
    have HW2 : Hid (Blk (((W.setCell ⟨w.heap.size + 1, 0, none⟩ (.slice A out.length c)).setCell ⟨w.heap.size + 1, 1, none⟩ (.slice A2 out.length c2)).setCell ⟨w.heap.size + 1 + 1, 0, none⟩ .nilIface) (w.heap.size + 1 + 1) 32 #[.nilIface]) := ((i5.other (by omega) 0 _).other (by omega) 1 _).set 0 _
    clear h1 i4 i5
    gi_wp2_with fail
    obtain ⟨W2, hW2⟩ : ∃ W2, ((W.setCell ⟨w.heap.size + 1, 0, none⟩ (.slice A out.length c)).setCell ⟨w.heap.size + 1, 1, none⟩ (.slice A2 out.length c2)).setCell ⟨w.heap.size + 1 + 1, 0, none⟩ .nilIface = W2 := ⟨_, rfl⟩
    rw [hW2] at HW HW2 ⊢
    have hlow : ∀ b, b ≠ w.heap.size + 1 → b ≠ w.heap.size + 1 + 1 → W2.heap[b]? = W.heap[b]? := fun b n1 n2 => by
      rw [← hW2, Below.heap_setCell _ _ _ _ (by simpa using n2), Below.heap_setCell _ _ _ _ (by simpa using n1), Below.heap_setCell _ _ _ _ (by simpa using n1)]
    have hsz2 : W2.heap.size = W.heap.size := by rw [← hW2]; simp
    have hb2 : Below w.heap.size w W2 := by rw [← hW2]; exact ((HB.out.setCell (by simp) _).setCell (by simp) _).setCell (by simp only; omega) _
    have hD3 : W2.heap[E]? = some (.deferred (some [])) := (hlow E (by omega) (by omega)).trans hD2
    refine ⟨by simp, .inl ⟨_, _, rfl, run_takeDeferred hD3, ?_⟩⟩
    refine ⟨_, results_lT rfl _ _ (w.heap.size + 1) (w.heap.size + 1 + 1) (.slice A out.length c) (.slice A2 out.length c2) .nilIface rfl rfl (blk_cell (HW.out.putE (by omega)) 0 _ rfl) (blk_cell (HW.out.putE (by omega)) 1 _ rfl) (blk_cell (HW2.out.putE (by omega)) 0 _ rfl), ?_⟩
    obtain ⟨hl1, hl2⟩ := HL.out
    refine .inl ⟨_, _, out, ?_, rfl, ?_, by omega, hb2.trans ⟨rfl, rfl, rfl, by simp, fun q hq => World.putObj_heap_other (by omega)⟩⟩
    · have := HA.out
      rw [List.take_of_length_le (by simp)] at this
      unfold togE
      rw [if_neg (by simp; omega)]
      exact this
    · have h5 := HH.out.keep (W' := W2.putObj E (.deferred none)) (by simp [hsz2]) fun b hba hlt hX => by
        by_cases hbE : b = E
        · subst hbE; exact absurd hX hnE
        · rw [World.putObj_heap_other hbE]
          exact hlow b (by omega) (by omega)
      exact ⟨row_mono h5.rm (by omega), row_mono h5.rv (by omega), h5.ne, fun _ _ => trivial, fun _ _ => trivial, fun p hp => (h5.vk p hp).mono fun b hP => ⟨by omega, hP.2.1, hP.2.2.1, hP.2.2.2.1, trivial⟩⟩
  case stop =>
    rintro E c k W hE hk ⟨rfl, h1, h2, h3, h4⟩ hD2
    have H1 := Lib.hid h1
    have H2 := Lib.hid h2
    have H3 := Lib.hid h3
    have H4 := Lib.hid h4
    clear h1 h2 h3 h4
    gi_wp2_with fail
    refine ⟨by simp, .inl ⟨_, _, rfl, run_takeDeferred hD2, ?_⟩⟩
    refine ⟨_, results_lT rfl _ _ (w.heap.size + 1) (w.heap.size + 1 + 1) (.slice none 0 0) (.slice none 0 0) (errV 13) rfl rfl (blk_cell (H1.out.putE (by omega)) 0 _ rfl) (blk_cell (H1.out.putE (by omega)) 1 _ rfl) (blk_cell (H2.out.putE (by omega)) 0 _ rfl), ?_⟩
    exact .inr ⟨H3.out, rfl, H4.out.trans ⟨rfl, rfl, rfl, by simp, fun q hq => World.putObj_heap_other (by omega)⟩⟩
end Go.Proofs.YtdbohojncbeajaaGreat.J5
