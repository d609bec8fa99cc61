/- What a value by a schema is, as plain mathematics; what the reference's siblings does. No condition but that what it takes lies in memory. -/
import Derived.Test.YtleejffjnknohaaGreatMq04
import Derived.Test.YtleejffjnknohaaGreatMq01
namespace Go.Proofs.YtleejffjnknohaaGreat.V4
open Go.RowKit
open C3 (Tk Asc isC ofC cmpC Nok In belAl allocB drewB RetT)
open S2 (Tr Sc isT)

def lastAhead (pre : List (List Tk)) (c : List Tk) : Bool := match pre.getLast? with
  | none => true
  | some d => aheadC d c

/-- Versions: pre has come, the rest is to come. -/
def sibGo (p : Va → Bool) : List (List Tk) → List (List Tk) → List Va → Bool
  | pre, c :: cs, v :: vs => isC c && (p v && (lastAhead pre c && (pre.all (fun d => decide (cmpC d c = 2)) && sibGo p (pre ++ [c]) cs vs)))
  | _, _, _ => true

def sibsV (p : Va → Bool) (x : Va) : Bool := decide (x.c.length ≤ 40) && sibGo p [] x.c x.v

theorem sibGo_step {p : Va → Bool} {cs : List (List Tk)} {vs : List Va} {i : Nat} {c : List Tk} {v : Va} (hc : cs[i]? = some c) (hv : vs[i]? = some v) :
    sibGo p (cs.take i) (cs.drop i) (vs.drop i) = (isC c && (p v && (lastAhead (cs.take i) c && ((cs.take i).all (fun d => decide (cmpC d c = 2)) && sibGo p (cs.take (i + 1)) (cs.drop (i + 1)) (vs.drop (i + 1)))))) := by
  obtain ⟨h1, e1⟩ := List.getElem?_eq_some_iff.1 hc
  obtain ⟨h2, e2⟩ := List.getElem?_eq_some_iff.1 hv
  rw [List.drop_eq_getElem_cons h1, List.drop_eq_getElem_cons h2, e1, e2, sibGo, List.take_succ_eq_append_getElem h1, e1]
theorem sibGo_end {p : Va → Bool} {pre cs : List (List Tk)} {vs : List Va} (h : cs = []) : sibGo p pre cs vs = true := by
  subst h
  rw [sibGo]
  simp

theorem last_zero (cs : List (List Tk)) (c : List Tk) : lastAhead (cs.take 0) c = true := by simp [lastAhead]
theorem last_succ {cs : List (List Tk)} {j : Nat} {c d : List Tk} (h : cs[j]? = some d) : lastAhead (cs.take (j + 1)) c = aheadC d c := by
  obtain ⟨hi, he⟩ := List.getElem?_eq_some_iff.1 h
  unfold lastAhead
  rw [List.take_succ_eq_append_getElem hi, List.getLast?_append, he]
  simp

theorem refIsC_at (A : Option Addr) (c : Nat) (l : List Tk) (v : Bool) (w : World) (h : In w A c l) (hv : isC l = v) : Calls Tryz.prog 52 #[.slice A l.length c] w (RetV w (.bool v)) := hv ▸ C3.refIs_any A c l w h
theorem refAhead_at (A A' : Option Addr) (c c' : Nat) (l l' : List Tk) (v : Bool) (w : World) (h : In w A c l) (h' : In w A' c' l') (hv : aheadC l l' = v) :
    Calls Tryz.prog 82 #[.slice A l.length c, .slice A' l'.length c'] w (RetV w (.bool v)) := hv ▸ refAhead_any A A' c c' l l' w h h'
theorem refCmp_at (A A' : Option Addr) (c c' : Nat) (l l' : List Tk) (v : Int) (w : World) (h : In w A c l) (h' : In w A' c' l') (hv : cmpC l l' = v) :
    Calls Tryz.prog 83 #[.slice A l.length c, .slice A' l'.length c'] w (RetV w (.int .i64 v)) := hv ▸ C3.refCmp_any A A' c c' l l' w h h'

/-- The cells that stand while siblings runs: In of the schema's box, C and V of the value's, the one schema. -/
structure SibCells (w W : World) (A : Option Addr) (c : Nat) (b off : Nat) (ak : Int) (aA : Option Addr) (ac al : Nat) (cA : Option Addr) (cc cn : Nat) (vA : Option Addr) (vc vn : Nat) : Prop where
  i1 : W.cell? ⟨w.heap.size, 1, none⟩ = some (.slice A 1 c)
  c3 : W.cell? ⟨w.heap.size + 1, 3, none⟩ = some (.slice cA cn cc)
  c4 : W.cell? ⟨w.heap.size + 1, 4, none⟩ = some (.slice vA vn vc)
  s0 : W.cell? ⟨b, off, none⟩ = some (.int .i64 ak)
  s1 : W.cell? ⟨b, off + 1, none⟩ = some (.slice aA al ac)
  sz : w.heap.size + 1 < W.heap.size
  bb : b < W.heap.size
  bel : Below w.heap.size w W

theorem SibCells.later {w W W' : World} {A : Option Addr} {c b off : Nat} {ak : Int} {aA : Option Addr} {ac al : Nat} {cA : Option Addr} {cc cn : Nat} {vA : Option Addr} {vc vn : Nat} (h : SibCells w W A c b off ak aA ac al cA cc cn vA vc vn) (hb : Below W.heap.size W W') :
    SibCells w W' A c b off ak aA ac al cA cc cn vA vc vn :=
  ⟨(hb.cell (p := ⟨w.heap.size, 1, none⟩) (by have := h.sz; show w.heap.size < _; omega)).trans h.i1, (hb.cell (p := ⟨w.heap.size + 1, 3, none⟩) h.sz).trans h.c3, (hb.cell (p := ⟨w.heap.size + 1, 4, none⟩) h.sz).trans h.c4, (hb.cell (p := ⟨b, off, none⟩) h.bb).trans h.s0, (hb.cell (p := ⟨b, off + 1, none⟩) h.bb).trans h.s1,
    Nat.lt_of_lt_of_le h.sz hb.size, Nat.lt_of_lt_of_le h.bb hb.size, h.bel.trans (hb.mono h.bel.size)⟩

/-- .. and the clock and the value at one place. -/
structure SibE (w : World) (A : Option Addr) (c : Nat) (b off : Nat) (ak : Int) (aA : Option Addr) (ac : Nat) (al : List Sc) (cA : Option Addr) (cc cn : Nat) (vA : Option Addr) (vc vn : Nat) (b1 o1 b2 o2 : Nat) (x : Ck) (y : Vl) (W : World) : Prop where
  S : SibCells w W A c b off ak aA ac al.length cA cc cn vA vc vn
  x0 : W.cell? ⟨b1, o1, none⟩ = some (.slice x.A x.l.length x.c)
  y0 : W.cell? ⟨b2, o2, none⟩ = some (.int .u64 y.n)
  y1 : W.cell? ⟨b2, o2 + 1, none⟩ = some (.int .u64 y.m)
  y2 : W.cell? ⟨b2, o2 + 2, none⟩ = some y.s1
  y3 : W.cell? ⟨b2, o2 + 3, none⟩ = some y.c1
  y4 : W.cell? ⟨b2, o2 + 4, none⟩ = some y.v1
  l1 : b1 < W.heap.size
  l2 : b2 < W.heap.size
  ix : In W x.A x.c x.l
  iy : y.In W
  ia : (Sc.mk ak aA ac al).In W.heap.size W

theorem SibE.later {w : World} {A : Option Addr} {c b off : Nat} {ak : Int} {aA : Option Addr} {ac : Nat} {al : List Sc} {cA : Option Addr} {cc cn : Nat} {vA : Option Addr} {vc vn b1 o1 b2 o2 : Nat} {x : Ck} {y : Vl} {W W' : World}
    (h : SibE w A c b off ak aA ac al cA cc cn vA vc vn b1 o1 b2 o2 x y W) (hb : Below W.heap.size W W') : SibE w A c b off ak aA ac al cA cc cn vA vc vn b1 o1 b2 o2 x y W' :=
  ⟨h.S.later hb, (hb.cell (p := ⟨b1, o1, none⟩) h.l1).trans h.x0, (hb.cell (p := ⟨b2, o2, none⟩) h.l2).trans h.y0, (hb.cell (p := ⟨b2, o2 + 1, none⟩) h.l2).trans h.y1, (hb.cell (p := ⟨b2, o2 + 2, none⟩) h.l2).trans h.y2, (hb.cell (p := ⟨b2, o2 + 3, none⟩) h.l2).trans h.y3, (hb.cell (p := ⟨b2, o2 + 4, none⟩) h.l2).trans h.y4,
    Nat.lt_of_lt_of_le h.l1 hb.size, Nat.lt_of_lt_of_le h.l2 hb.size, h.ix.later hb, h.iy.later hb, h.ia.later hb⟩

/-- The clock at another place of the same row. -/
structure SibZ (b1 o1 : Nat) (x : Ck) (W : World) : Prop where
  x0 : W.cell? ⟨b1, o1, none⟩ = some (.slice x.A x.l.length x.c)
  l1 : b1 < W.heap.size
  ix : In W x.A x.c x.l
theorem SibZ.later {b1 o1 : Nat} {x : Ck} {W W' : World} (h : SibZ b1 o1 x W) (hb : Below W.heap.size W W') : SibZ b1 o1 x W' := ⟨(hb.cell (p := ⟨b1, o1, none⟩) h.l1).trans h.x0, Nat.lt_of_lt_of_le h.l1 hb.size, h.ix.later hb⟩

theorem takeH {P : Program} {ops : Array Oper} {Q : Exit → Act → World → Prop} {md : Region.Mode} {S : World → Prop} (i d : Nat) {oi : Oper} {v : Value} {fuel : Nat} {listed : Array Bool} {l : List Value} {df : List Deferred} {w : World}
    (hi : ops[i]? = some oi) (hd : oi.dst = some d) (hs : Region.noSelect ops = true) (hf : Region.free md ops listed i = true) (hr : (Region.ready md ops listed).contains i = true)
    (hQ : ∀ c a w, Q (.panic c) (Act.put a (some d) v) w → Q (.panic c) a w) (hy : YieldsIf P ops S oi v ⟨l.toArray, df⟩) (hS : S w)
    (h : wpAnyH P md ops Q S fuel (listed.setIfInBounds i true) ⟨(l.set d v).toArray, df⟩ w) : wpAnyH P md ops Q S (fuel + 1) listed ⟨l.toArray, df⟩ w := by
  refine wpAnyH_take hi hs hf hr (by rw [hd]; exact hQ) hy hS ?_
  rw [hd]
  simpa [Act.put] using h

theorem map_at {α β : Type} {f : α → β} {l : List α} {i : Nat} {x : α} (h : l[i]? = some x) : (l.map f)[i]? = some (f x) := by rw [List.getElem?_map, h]; rfl

set_option maxRecDepth 100000 in
set_option maxHeartbeats 4000000 in
theorem refSib_any (k : Int) (A : Option Addr) (c : Nat) (a : Sc) (x : Vl) (w : World) (hs : (Sc.mk k A c [a]).In w.heap.size w) (hx : x.In w) (hlen : x.er.c.length = x.er.v.length)
    (p : Va → Bool) (ih : ∀ (y : Vl) (w : World), a.In w.heap.size w → y.In w → Calls Tryz.prog 32 #[a.val, y.val] w (RetV w (.bool (p y.er)))) :
    Calls Tryz.prog 53 #[(Sc.mk k A c [a]).val, x.val] w (RetV w (.bool (sibsV p x.er))) := by
  obtain ⟨n, m, sA, sc, ss, cA, cc, cs, vA, vc, vs⟩ := x
  have HB0 : Hid (Below w.heap.size w ((w.alloc (.cells #[.int .i64 k, .slice A 1 c] 24)).alloc (.cells #[.int .u64 n, .int .u64 m, .slice sA ss.length sc, .slice cA cs.length cc, .slice vA vs.length vc] 32))) := belAl (allocB _ _)
  obtain ⟨hl0, -, -, hall⟩ := hs.out
  obtain ⟨b, off, rfl, hb, hcl⟩ := hl0.get (k := 0) (by simp)
  obtain ⟨h0, h1⟩ := hcl 0 a rfl
  have HA := Lib.hid (hall a (by simp))
  have P := hx.out
  have HP := Lib.hid P
  have hcm : cs.length ≤ 9223372036854775807 := by have := P.cb; unfold maxLen at this; omega
  have HLEN : Hid (cs.length = vs.length) := by show cs.length = vs.length; rw [er_mk] at hlen; simpa [Va.c, Va.v] using hlen
  have HR : Hid (sibsV p (Vl.mk n m sA sc ss cA cc cs vA vc vs).er = (decide (cs.length ≤ 40) && sibGo p [] (cs.map Ck.l) (vs.map Vl.er))) := by
    show sibsV _ _ = _
    rw [er_mk]
    unfold sibsV Va.c Va.v
    simp
  have IH := Lib.hid ih
  rw [HR.out]
  clear hl0 hall hcl hs hx P hlen ih HR
  obtain ⟨ak, aA, ac, al⟩ := a
  simp only [S2.Sc.v1, S2.Sc.k, Nat.zero_mul, Nat.add_zero] at h0 h1
  simp only [S2.val_mk] at IH
  simp only [S2.val_mk, val_mk, List.length_cons, List.length_nil, Nat.zero_add]
  have HC : Hid (SibCells w ((w.alloc (.cells #[.int .i64 k, .slice (some ⟨b, off, none⟩) 1 c] 24)).alloc (.cells #[.int .u64 n, .int .u64 m, .slice sA ss.length sc, .slice cA cs.length cc, .slice vA vs.length vc] 32)) (some ⟨b, off, none⟩) c b off ak aA ac al.length cA cc cs.length vA vc vs.length) :=
    ⟨by go_simp, by go_simp, by go_simp, (HB0.out.cell (p := ⟨b, off, none⟩) hb).trans h0, (HB0.out.cell (p := ⟨b, off + 1, none⟩) hb).trans h1, by simp, by simp; omega, HB0.out⟩
  clear HB0 h0 h1 hb
  by_cases c40 : cs.length ≤ 40
  · rw [decide_eq_true c40, Bool.true_and]
    have d40 : decide (40 < (cs.length : Int)) = false := decide_eq_false (by omega)
    obtain ⟨R, hR⟩ : ∃ R, sibGo p [] (cs.map Ck.l) (vs.map Vl.er) = R := ⟨_, rfl⟩
    rw [hR]
    have HR := Lib.hid hR
    clear hR
    go_enter Tryz.func53, Tryz.ntmps53
    go_wp2_with fail
    generalize ((w.alloc (.cells #[.int .i64 k, .slice (some ⟨b, off, none⟩) 1 c] 24)).alloc (.cells #[.int .u64 n, .int .u64 m, .slice sA ss.length sc, .slice cA cs.length cc, .slice vA vs.length vc] 32)) = W0 at *
    go_loopw [5] (fun iv wr => ∃ (i : Nat), i ≤ cs.length ∧ iv = .int .i64 i ∧ Hid (sibGo p ((cs.map Ck.l).take i) ((cs.map Ck.l).drop i) ((vs.map Vl.er).drop i) = R) ∧ Hid (SibCells w wr (some ⟨b, off, none⟩) c b off ak aA ac al.length cA cc cs.length vA vc vs.length)) (fun iv _ => cs.length - (intOf iv).toNat)
    case atStart => exact ⟨0, Nat.zero_le _, rfl, by simp only [List.take_zero, List.drop_zero]; exact HR, HC⟩
    case round =>
      obtain ⟨i, hi, rfl, h0, hC⟩ := hrel
      clear HR HC
      obtain ⟨q1, q2, q3, q4, q5, hsz, hbb, hbw⟩ := hC.out
      by_cases hlt : i < cs.length
      · have hltv : i < vs.length := by have := HLEN.out; omega
        obtain ⟨x, hx⟩ : ∃ x, cs[i]? = some x := ⟨_, List.getElem?_eq_getElem hlt⟩
        obtain ⟨y, hy⟩ : ∃ y, vs[i]? = some y := ⟨_, List.getElem?_eq_getElem hltv⟩
        obtain ⟨b1, off1, rfl, hb1, hcx⟩ := clock_at (HP.out.cl.below hbw) hx
        obtain ⟨b2, off2, rfl, hb2, hy0, hy1, hy2, hy3, hy4⟩ := value_at (HP.out.vl.below hbw) hy
        have hIX := (HP.out.ck x (List.mem_of_getElem? hx)).later hbw
        have hIY := (HP.out.vk y (List.mem_of_getElem? hy)).later hbw
        have HE : Hid (SibE w (some ⟨b, off, none⟩) c b off ak aA ac al (some ⟨b1, off1, none⟩) cc cs.length (some ⟨b2, off2, none⟩) vc vs.length b1 (off1 + i) b2 (off2 + i * 5) x y wr.drew) :=
          SibE.later ⟨hC.out, hcx, hy0, hy1, hy2, hy3, hy4, Nat.lt_of_lt_of_le hb1 hbw.size, Nat.lt_of_lt_of_le hb2 hbw.size, hIX, hIY, (HA.out.keep hbw).up hbw.size⟩ (drewB wr)
        have HX := Lib.hid hx
        have HY := Lib.hid hy
        have HG := Lib.hid ((sibGo_step (p := p) (map_at (f := Ck.l) hx) (map_at (f := Vl.er) hy)).symm.trans h0.out)
        obtain ⟨u1, hu1⟩ : ∃ u, isC x.l = u := ⟨_, rfl⟩
        obtain ⟨u2, hu2⟩ : ∃ u, p y.er = u := ⟨_, rfl⟩
        rw [hu1, hu2] at HG
        have HU1 := Lib.hid hu1
        have HU2 := Lib.hid hu2
        clear hx hy hcx hy0 hy1 hy2 hy3 hy4 hIX hIY hu1 hu2 h0 hC hbw
        obtain ⟨xA, xc, xl⟩ := x
        obtain ⟨yn, ym, ysA, ysc, yss, ycA, ycc, ycs, yvA, yvc, yvs⟩ := y
        dsimp only at HU1 HG
        have hli : (i : Int) < (cs.length : Int) := by omega
        have hliv : (i : Int) < (vs.length : Int) := by omega
        clear q1 q3 q4 q5
        cases u1 with
        | false =>
          have HF : Hid (R = false) := by show R = false; rw [← HG.out]; rfl
          go_wp2_with fail
          refine wp_region_noPanic ?_
          refine wp_region_held_drew (S := (fun w' => w'.cell? ⟨w.heap.size, 1, none⟩ = some (.slice (some ⟨b, off, none⟩) 1 c) ∧ w'.cell? ⟨w.heap.size + 1, 3, none⟩ = some (.slice (some ⟨b1, off1, none⟩) cs.length cc) ∧ w'.cell? ⟨w.heap.size + 1, 4, none⟩ = some (.slice (some ⟨b2, off2, none⟩) vs.length vc) ∧ w'.cell? ⟨b, off, none⟩ = some (.int .i64 ak) ∧ w'.cell? ⟨b, off + 1, none⟩ = some (.slice aA al.length ac) ∧ w'.cell? ⟨b1, off1 + i, none⟩ = some (.slice xA xl.length xc) ∧ w'.cell? ⟨b2, off2 + i * 5, none⟩ = some (.int .u64 yn) ∧ w'.cell? ⟨b2, off2 + i * 5 + 1, none⟩ = some (.int .u64 ym) ∧ w'.cell? ⟨b2, off2 + i * 5 + 2, none⟩ = some (.slice ysA yss.length ysc) ∧ w'.cell? ⟨b2, off2 + i * 5 + 3, none⟩ = some (.slice ycA ycs.length ycc) ∧ w'.cell? ⟨b2, off2 + i * 5 + 4, none⟩ = some (.slice yvA yvs.length yvc))) (by kernel_rfl) ?_ (fun hHeld => ?_)
          · exact ⟨HE.out.S.i1, HE.out.S.c3, HE.out.S.c4, HE.out.S.s0, HE.out.S.s1, HE.out.x0, HE.out.y0, HE.out.y1, HE.out.y2, HE.out.y3, HE.out.y4⟩
          refine takeH 0 18 (v := ?q1_v0) rfl rfl (by kernel_rfl) (by kernel_rfl) (by kernel_rfl) (fun _ _ _ h => h) (Or.inl ⟨by rfl, ?q1_h0⟩) (by assumption) ?q1_r0
          case q1_h0 => (intro w hSw; (try dsimp only at hSw); go_simp; try (with_reducible rfl))
          simp only [List.set_cons_zero, List.set_cons_succ]
          refine takeH 1 19 (v := ?q1_v1) rfl rfl (by kernel_rfl) (by kernel_rfl) (by kernel_rfl) (fun _ _ _ h => h) (Or.inl ⟨by rfl, ?q1_h1⟩) (by assumption) ?q1_r1
          case q1_h1 => (intro w hSw; (try dsimp only at hSw); go_simp; try (with_reducible rfl))
          simp only [List.set_cons_zero, List.set_cons_succ]
          refine takeH 2 20 (v := ?q1_v2) rfl rfl (by kernel_rfl) (by kernel_rfl) (by kernel_rfl) (fun _ _ _ h => h) (Or.inl ⟨by rfl, ?q1_h2⟩) (by assumption) ?q1_r2
          case q1_h2 => (intro w hSw; (try dsimp only at hSw); go_simp; try (with_reducible rfl))
          simp only [List.set_cons_zero, List.set_cons_succ]
          refine takeH 3 21 (v := ?q1_v3) rfl rfl (by kernel_rfl) (by kernel_rfl) (by kernel_rfl) (fun _ _ _ h => h) (Or.inl ⟨by rfl, ?q1_h3⟩) (by assumption) ?q1_r3
          case q1_h3 => (intro w hSw; (try dsimp only at hSw); go_simp; try (with_reducible rfl))
          simp only [List.set_cons_zero, List.set_cons_succ]
          refine takeH 4 22 (v := ?q1_v4) rfl rfl (by kernel_rfl) (by kernel_rfl) (by kernel_rfl) (fun _ _ _ h => h) (Or.inl ⟨by rfl, ?q1_h4⟩) (by assumption) ?q1_r4
          case q1_h4 => (intro w hSw; (try dsimp only at hSw); go_simp; try (with_reducible rfl))
          simp only [List.set_cons_zero, List.set_cons_succ]
          refine wpAnyH_ready (rs := [5]) (by kernel_rfl) (by simp) ?_
          refine AllReadyH.cons rfl (fun K hK => ?_) AllReadyH.nil
          go_simp
          go_wp2_with (go_at_call 52; refine (refIsC_at xA xc xl _ _ HE.out.ix HU1.out).mono ?_; rintro e w5 ⟨rfl, hb5⟩; (replace HE := Lib.hid (HE.out.later hb5); clear hb5))
          refine hK.out _ _ ?_ (fun hHeld => ?_)
          · exact ⟨HE.out.S.i1, HE.out.S.c3, HE.out.S.c4, HE.out.S.s0, HE.out.S.s1, HE.out.x0, HE.out.y0, HE.out.y1, HE.out.y2, HE.out.y3, HE.out.y4⟩
          clear hK K
          refine takeH 6 24 (v := ?q1_v6) rfl rfl (by kernel_rfl) (by kernel_rfl) (by kernel_rfl) (fun _ _ _ h => h) (Or.inl ⟨by rfl, ?q1_h6⟩) (by assumption) ?q1_r6
          case q1_h6 => (intro w hSw; (try dsimp only at hSw); go_simp; try (with_reducible rfl))
          simp only [List.set_cons_zero, List.set_cons_succ]
          refine takeH 7 25 (v := ?q1_v7) rfl rfl (by kernel_rfl) (by kernel_rfl) (by kernel_rfl) (fun _ _ _ h => h) (Or.inl ⟨by rfl, ?q1_h7⟩) (by assumption) ?q1_r7
          case q1_h7 => (intro w hSw; (try dsimp only at hSw); go_simp; try (with_reducible rfl))
          simp only [List.set_cons_zero, List.set_cons_succ]
          refine takeH 8 26 (v := undef) rfl rfl (by kernel_rfl) (by kernel_rfl) (by kernel_rfl) (fun _ _ _ h => h) (Or.inr ⟨by rfl, rfl⟩) (by assumption) ?_
          simp only [List.set_cons_zero, List.set_cons_succ]
          refine takeH 9 27 (v := undef) rfl rfl (by kernel_rfl) (by kernel_rfl) (by kernel_rfl) (fun _ _ _ h => h) (Or.inr ⟨by rfl, rfl⟩) (by assumption) ?_
          simp only [List.set_cons_zero, List.set_cons_succ]
          refine takeH 10 28 (v := undef) rfl rfl (by kernel_rfl) (by kernel_rfl) (by kernel_rfl) (fun _ _ _ h => h) (Or.inr ⟨by rfl, rfl⟩) (by assumption) ?_
          simp only [List.set_cons_zero, List.set_cons_succ]
          refine takeH 11 29 (v := undef) rfl rfl (by kernel_rfl) (by kernel_rfl) (by kernel_rfl) (fun _ _ _ h => h) (Or.inr ⟨by rfl, rfl⟩) (by assumption) ?_
          simp only [List.set_cons_zero, List.set_cons_succ]
          refine takeH 12 30 (v := undef) rfl rfl (by kernel_rfl) (by kernel_rfl) (by kernel_rfl) (fun _ _ _ h => h) (Or.inr ⟨by rfl, rfl⟩) (by assumption) ?_
          simp only [List.set_cons_zero, List.set_cons_succ]
          refine takeH 13 31 (v := undef) rfl rfl (by kernel_rfl) (by kernel_rfl) (by kernel_rfl) (fun _ _ _ h => h) (Or.inr ⟨by rfl, rfl⟩) (by assumption) ?_
          simp only [List.set_cons_zero, List.set_cons_succ]
          refine takeH 14 32 (v := undef) rfl rfl (by kernel_rfl) (by kernel_rfl) (by kernel_rfl) (fun _ _ _ h => h) (Or.inr ⟨by rfl, rfl⟩) (by assumption) ?_
          simp only [List.set_cons_zero, List.set_cons_succ]
          refine takeH 15 33 (v := undef) rfl rfl (by kernel_rfl) (by kernel_rfl) (by kernel_rfl) (fun _ _ _ h => h) (Or.inr ⟨by rfl, rfl⟩) (by assumption) ?_
          simp only [List.set_cons_zero, List.set_cons_succ]
          refine takeH 16 34 (v := undef) rfl rfl (by kernel_rfl) (by kernel_rfl) (by kernel_rfl) (fun _ _ _ h => h) (Or.inr ⟨by rfl, rfl⟩) (by assumption) ?_
          simp only [List.set_cons_zero, List.set_cons_succ]
          refine takeH 17 35 (v := undef) rfl rfl (by kernel_rfl) (by kernel_rfl) (by kernel_rfl) (fun _ _ _ h => h) (Or.inr ⟨by rfl, rfl⟩) (by assumption) ?_
          simp only [List.set_cons_zero, List.set_cons_succ]
          refine takeH 18 36 (v := undef) rfl rfl (by kernel_rfl) (by kernel_rfl) (by kernel_rfl) (fun _ _ _ h => h) (Or.inr ⟨by rfl, rfl⟩) (by assumption) ?_
          simp only [List.set_cons_zero, List.set_cons_succ]
          refine takeH 19 37 (v := ?q1_v19) rfl rfl (by kernel_rfl) (by kernel_rfl) (by kernel_rfl) (fun _ _ _ h => h) (Or.inl ⟨by rfl, ?q1_h19⟩) (by assumption) ?q1_r19
          case q1_h19 => (intro w hSw; (try dsimp only at hSw); go_simp; try (with_reducible rfl))
          simp only [List.set_cons_zero, List.set_cons_succ]
          refine takeH 20 38 (v := ?q1_v20) rfl rfl (by kernel_rfl) (by kernel_rfl) (by kernel_rfl) (fun _ _ _ h => h) (Or.inl ⟨by rfl, ?q1_h20⟩) (by assumption) ?q1_r20
          case q1_h20 => (intro w hSw; (try dsimp only at hSw); go_simp; try (with_reducible rfl))
          simp only [List.set_cons_zero, List.set_cons_succ]
          refine takeH 21 39 (v := undef) rfl rfl (by kernel_rfl) (by kernel_rfl) (by kernel_rfl) (fun _ _ _ h => h) (Or.inr ⟨by rfl, rfl⟩) (by assumption) ?_
          simp only [List.set_cons_zero, List.set_cons_succ]
          refine takeH 22 40 (v := undef) rfl rfl (by kernel_rfl) (by kernel_rfl) (by kernel_rfl) (fun _ _ _ h => h) (Or.inr ⟨by rfl, rfl⟩) (by assumption) ?_
          simp only [List.set_cons_zero, List.set_cons_succ]
          refine takeH 23 41 (v := undef) rfl rfl (by kernel_rfl) (by kernel_rfl) (by kernel_rfl) (fun _ _ _ h => h) (Or.inr ⟨by rfl, rfl⟩) (by assumption) ?_
          simp only [List.set_cons_zero, List.set_cons_succ]
          refine takeH 24 42 (v := undef) rfl rfl (by kernel_rfl) (by kernel_rfl) (by kernel_rfl) (fun _ _ _ h => h) (Or.inr ⟨by rfl, rfl⟩) (by assumption) ?_
          simp only [List.set_cons_zero, List.set_cons_succ]
          refine takeH 25 43 (v := undef) rfl rfl (by kernel_rfl) (by kernel_rfl) (by kernel_rfl) (fun _ _ _ h => h) (Or.inr ⟨by rfl, rfl⟩) (by assumption) ?_
          simp only [List.set_cons_zero, List.set_cons_succ]
          refine takeH 26 44 (v := undef) rfl rfl (by kernel_rfl) (by kernel_rfl) (by kernel_rfl) (fun _ _ _ h => h) (Or.inr ⟨by rfl, rfl⟩) (by assumption) ?_
          simp only [List.set_cons_zero, List.set_cons_succ]
          refine takeH 27 45 (v := undef) rfl rfl (by kernel_rfl) (by kernel_rfl) (by kernel_rfl) (fun _ _ _ h => h) (Or.inr ⟨by rfl, rfl⟩) (by assumption) ?_
          simp only [List.set_cons_zero, List.set_cons_succ]
          refine takeH 28 46 (v := undef) rfl rfl (by kernel_rfl) (by kernel_rfl) (by kernel_rfl) (fun _ _ _ h => h) (Or.inr ⟨by rfl, rfl⟩) (by assumption) ?_
          simp only [List.set_cons_zero, List.set_cons_succ]
          refine takeH 29 47 (v := undef) rfl rfl (by kernel_rfl) (by kernel_rfl) (by kernel_rfl) (fun _ _ _ h => h) (Or.inr ⟨by rfl, rfl⟩) (by assumption) ?_
          simp only [List.set_cons_zero, List.set_cons_succ]
          refine takeH 30 48 (v := undef) rfl rfl (by kernel_rfl) (by kernel_rfl) (by kernel_rfl) (fun _ _ _ h => h) (Or.inr ⟨by rfl, rfl⟩) (by assumption) ?_
          simp only [List.set_cons_zero, List.set_cons_succ]
          refine takeH 31 49 (v := undef) rfl rfl (by kernel_rfl) (by kernel_rfl) (by kernel_rfl) (fun _ _ _ h => h) (Or.inr ⟨by rfl, rfl⟩) (by assumption) ?_
          simp only [List.set_cons_zero, List.set_cons_succ]
          refine takeH 32 50 (v := undef) rfl rfl (by kernel_rfl) (by kernel_rfl) (by kernel_rfl) (fun _ _ _ h => h) (Or.inr ⟨by rfl, rfl⟩) (by assumption) ?_
          simp only [List.set_cons_zero, List.set_cons_succ]
          refine takeH 33 51 (v := undef) rfl rfl (by kernel_rfl) (by kernel_rfl) (by kernel_rfl) (fun _ _ _ h => h) (Or.inr ⟨by rfl, rfl⟩) (by assumption) ?_
          simp only [List.set_cons_zero, List.set_cons_succ]
          refine takeH 34 52 (v := undef) rfl rfl (by kernel_rfl) (by kernel_rfl) (by kernel_rfl) (fun _ _ _ h => h) (Or.inr ⟨by rfl, rfl⟩) (by assumption) ?_
          simp only [List.set_cons_zero, List.set_cons_succ]
          refine takeH 35 53 (v := undef) rfl rfl (by kernel_rfl) (by kernel_rfl) (by kernel_rfl) (fun _ _ _ h => h) (Or.inr ⟨by rfl, rfl⟩) (by assumption) ?_
          simp only [List.set_cons_zero, List.set_cons_succ]
          refine takeH 36 54 (v := undef) rfl rfl (by kernel_rfl) (by kernel_rfl) (by kernel_rfl) (fun _ _ _ h => h) (Or.inr ⟨by rfl, rfl⟩) (by assumption) ?_
          simp only [List.set_cons_zero, List.set_cons_succ]
          refine takeH 37 55 (v := undef) rfl rfl (by kernel_rfl) (by kernel_rfl) (by kernel_rfl) (fun _ _ _ h => h) (Or.inr ⟨by rfl, rfl⟩) (by assumption) ?_
          simp only [List.set_cons_zero, List.set_cons_succ]
          refine takeH 38 56 (v := ?q1_v38) rfl rfl (by kernel_rfl) (by kernel_rfl) (by kernel_rfl) (fun _ _ _ h => h) (Or.inl ⟨by rfl, ?q1_h38⟩) (by assumption) ?q1_r38
          case q1_h38 => (intro w hSw; (try dsimp only at hSw); go_simp; try (with_reducible rfl))
          simp only [List.set_cons_zero, List.set_cons_succ]
          refine wpAnyH_done (by kernel_rfl) ?_ _
          refine NoPanic.normal ?_
          go_wp2_with fail
          go_ret
          exact ⟨ret_bool HF.out.symm, HE.out.S.bel⟩
        | true =>
          cases u2 with
          | false =>
            have HF : Hid (R = false) := by show R = false; rw [← HG.out]; rfl
            go_wp2_with fail
            refine wp_region_noPanic ?_
            refine wp_region_held_drew (S := (fun w' => w'.cell? ⟨w.heap.size, 1, none⟩ = some (.slice (some ⟨b, off, none⟩) 1 c) ∧ w'.cell? ⟨w.heap.size + 1, 3, none⟩ = some (.slice (some ⟨b1, off1, none⟩) cs.length cc) ∧ w'.cell? ⟨w.heap.size + 1, 4, none⟩ = some (.slice (some ⟨b2, off2, none⟩) vs.length vc) ∧ w'.cell? ⟨b, off, none⟩ = some (.int .i64 ak) ∧ w'.cell? ⟨b, off + 1, none⟩ = some (.slice aA al.length ac) ∧ w'.cell? ⟨b1, off1 + i, none⟩ = some (.slice xA xl.length xc) ∧ w'.cell? ⟨b2, off2 + i * 5, none⟩ = some (.int .u64 yn) ∧ w'.cell? ⟨b2, off2 + i * 5 + 1, none⟩ = some (.int .u64 ym) ∧ w'.cell? ⟨b2, off2 + i * 5 + 2, none⟩ = some (.slice ysA yss.length ysc) ∧ w'.cell? ⟨b2, off2 + i * 5 + 3, none⟩ = some (.slice ycA ycs.length ycc) ∧ w'.cell? ⟨b2, off2 + i * 5 + 4, none⟩ = some (.slice yvA yvs.length yvc))) (by kernel_rfl) ?_ (fun hHeld => ?_)
            · exact ⟨HE.out.S.i1, HE.out.S.c3, HE.out.S.c4, HE.out.S.s0, HE.out.S.s1, HE.out.x0, HE.out.y0, HE.out.y1, HE.out.y2, HE.out.y3, HE.out.y4⟩
            refine takeH 0 18 (v := ?q2_v0) rfl rfl (by kernel_rfl) (by kernel_rfl) (by kernel_rfl) (fun _ _ _ h => h) (Or.inl ⟨by rfl, ?q2_h0⟩) (by assumption) ?q2_r0
            case q2_h0 => (intro w hSw; (try dsimp only at hSw); go_simp; try (with_reducible rfl))
            simp only [List.set_cons_zero, List.set_cons_succ]
            refine takeH 1 19 (v := ?q2_v1) rfl rfl (by kernel_rfl) (by kernel_rfl) (by kernel_rfl) (fun _ _ _ h => h) (Or.inl ⟨by rfl, ?q2_h1⟩) (by assumption) ?q2_r1
            case q2_h1 => (intro w hSw; (try dsimp only at hSw); go_simp; try (with_reducible rfl))
            simp only [List.set_cons_zero, List.set_cons_succ]
            refine takeH 2 20 (v := ?q2_v2) rfl rfl (by kernel_rfl) (by kernel_rfl) (by kernel_rfl) (fun _ _ _ h => h) (Or.inl ⟨by rfl, ?q2_h2⟩) (by assumption) ?q2_r2
            case q2_h2 => (intro w hSw; (try dsimp only at hSw); go_simp; try (with_reducible rfl))
            simp only [List.set_cons_zero, List.set_cons_succ]
            refine takeH 3 21 (v := ?q2_v3) rfl rfl (by kernel_rfl) (by kernel_rfl) (by kernel_rfl) (fun _ _ _ h => h) (Or.inl ⟨by rfl, ?q2_h3⟩) (by assumption) ?q2_r3
            case q2_h3 => (intro w hSw; (try dsimp only at hSw); go_simp; try (with_reducible rfl))
            simp only [List.set_cons_zero, List.set_cons_succ]
            refine takeH 4 22 (v := ?q2_v4) rfl rfl (by kernel_rfl) (by kernel_rfl) (by kernel_rfl) (fun _ _ _ h => h) (Or.inl ⟨by rfl, ?q2_h4⟩) (by assumption) ?q2_r4
            case q2_h4 => (intro w hSw; (try dsimp only at hSw); go_simp; try (with_reducible rfl))
            simp only [List.set_cons_zero, List.set_cons_succ]
            refine wpAnyH_ready (rs := [5]) (by kernel_rfl) (by simp) ?_
            refine AllReadyH.cons rfl (fun K hK => ?_) AllReadyH.nil
            go_simp
            go_wp2_with (go_at_call 52; refine (refIsC_at xA xc xl _ _ HE.out.ix HU1.out).mono ?_; rintro e w5 ⟨rfl, hb5⟩; (replace HE := Lib.hid (HE.out.later hb5); clear hb5))
            refine hK.out _ _ ?_ (fun hHeld => ?_)
            · exact ⟨HE.out.S.i1, HE.out.S.c3, HE.out.S.c4, HE.out.S.s0, HE.out.S.s1, HE.out.x0, HE.out.y0, HE.out.y1, HE.out.y2, HE.out.y3, HE.out.y4⟩
            clear hK K
            refine takeH 6 24 (v := ?q2_v6) rfl rfl (by kernel_rfl) (by kernel_rfl) (by kernel_rfl) (fun _ _ _ h => h) (Or.inl ⟨by rfl, ?q2_h6⟩) (by assumption) ?q2_r6
            case q2_h6 => (intro w hSw; (try dsimp only at hSw); go_simp; try (with_reducible rfl))
            simp only [List.set_cons_zero, List.set_cons_succ]
            refine takeH 7 25 (v := ?q2_v7) rfl rfl (by kernel_rfl) (by kernel_rfl) (by kernel_rfl) (fun _ _ _ h => h) (Or.inl ⟨by rfl, ?q2_h7⟩) (by assumption) ?q2_r7
            case q2_h7 => (intro w hSw; (try dsimp only at hSw); go_simp; try (with_reducible rfl))
            simp only [List.set_cons_zero, List.set_cons_succ]
            refine takeH 8 26 (v := ?q2_v8) rfl rfl (by kernel_rfl) (by kernel_rfl) (by kernel_rfl) (fun _ _ _ h => h) (Or.inl ⟨by rfl, ?q2_h8⟩) (by assumption) ?q2_r8
            case q2_h8 => (intro w hSw; (try dsimp only at hSw); go_simp; try (with_reducible rfl))
            simp only [List.set_cons_zero, List.set_cons_succ]
            refine takeH 9 27 (v := ?q2_v9) rfl rfl (by kernel_rfl) (by kernel_rfl) (by kernel_rfl) (fun _ _ _ h => h) (Or.inl ⟨by rfl, ?q2_h9⟩) (by assumption) ?q2_r9
            case q2_h9 => (intro w hSw; (try dsimp only at hSw); go_simp; try (with_reducible rfl))
            simp only [List.set_cons_zero, List.set_cons_succ]
            refine takeH 10 28 (v := ?q2_v10) rfl rfl (by kernel_rfl) (by kernel_rfl) (by kernel_rfl) (fun _ _ _ h => h) (Or.inl ⟨by rfl, ?q2_h10⟩) (by assumption) ?q2_r10
            case q2_h10 => (intro w hSw; (try dsimp only at hSw); go_simp; try (with_reducible rfl))
            simp only [List.set_cons_zero, List.set_cons_succ]
            refine takeH 11 29 (v := ?q2_v11) rfl rfl (by kernel_rfl) (by kernel_rfl) (by kernel_rfl) (fun _ _ _ h => h) (Or.inl ⟨by rfl, ?q2_h11⟩) (by assumption) ?q2_r11
            case q2_h11 => (intro w hSw; (try dsimp only at hSw); go_simp; try (with_reducible rfl))
            simp only [List.set_cons_zero, List.set_cons_succ]
            refine takeH 12 30 (v := ?q2_v12) rfl rfl (by kernel_rfl) (by kernel_rfl) (by kernel_rfl) (fun _ _ _ h => h) (Or.inl ⟨by rfl, ?q2_h12⟩) (by assumption) ?q2_r12
            case q2_h12 => (intro w hSw; (try dsimp only at hSw); go_simp; try (with_reducible rfl))
            simp only [List.set_cons_zero, List.set_cons_succ]
            refine takeH 13 31 (v := ?q2_v13) rfl rfl (by kernel_rfl) (by kernel_rfl) (by kernel_rfl) (fun _ _ _ h => h) (Or.inl ⟨by rfl, ?q2_h13⟩) (by assumption) ?q2_r13
            case q2_h13 => (intro w hSw; (try dsimp only at hSw); go_simp; try (with_reducible rfl))
            simp only [List.set_cons_zero, List.set_cons_succ]
            refine takeH 14 32 (v := ?q2_v14) rfl rfl (by kernel_rfl) (by kernel_rfl) (by kernel_rfl) (fun _ _ _ h => h) (Or.inl ⟨by rfl, ?q2_h14⟩) (by assumption) ?q2_r14
            case q2_h14 => (intro w hSw; (try dsimp only at hSw); go_simp; try (with_reducible rfl))
            simp only [List.set_cons_zero, List.set_cons_succ]
            refine takeH 15 33 (v := ?q2_v15) rfl rfl (by kernel_rfl) (by kernel_rfl) (by kernel_rfl) (fun _ _ _ h => h) (Or.inl ⟨by rfl, ?q2_h15⟩) (by assumption) ?q2_r15
            case q2_h15 => (intro w hSw; (try dsimp only at hSw); go_simp; try (with_reducible rfl))
            simp only [List.set_cons_zero, List.set_cons_succ]
            refine takeH 16 34 (v := ?q2_v16) rfl rfl (by kernel_rfl) (by kernel_rfl) (by kernel_rfl) (fun _ _ _ h => h) (Or.inl ⟨by rfl, ?q2_h16⟩) (by assumption) ?q2_r16
            case q2_h16 => (intro w hSw; (try dsimp only at hSw); go_simp; try (with_reducible rfl))
            simp only [List.set_cons_zero, List.set_cons_succ]
            refine wpAnyH_ready (rs := [17]) (by kernel_rfl) (by simp) ?_
            refine AllReadyH.cons rfl (fun K hK => ?_) AllReadyH.nil
            go_simp
            go_wp2_with (go_at_call 32; refine (IH.out (.mk yn ym ysA ysc yss ycA ycc ycs yvA yvc yvs) _ HE.out.ia HE.out.iy).mono ?_; rintro e w6 ⟨rfl, hb5⟩; (rw [HU2.out]; replace HE := Lib.hid (HE.out.later hb5); clear hb5))
            refine hK.out _ _ ?_ (fun hHeld => ?_)
            · exact ⟨HE.out.S.i1, HE.out.S.c3, HE.out.S.c4, HE.out.S.s0, HE.out.S.s1, HE.out.x0, HE.out.y0, HE.out.y1, HE.out.y2, HE.out.y3, HE.out.y4⟩
            clear hK K
            refine takeH 18 36 (v := ?q2_v18) rfl rfl (by kernel_rfl) (by kernel_rfl) (by kernel_rfl) (fun _ _ _ h => h) (Or.inl ⟨by rfl, ?q2_h18⟩) (by assumption) ?q2_r18
            case q2_h18 => (intro w hSw; (try dsimp only at hSw); go_simp; try (with_reducible rfl))
            simp only [List.set_cons_zero, List.set_cons_succ]
            refine takeH 19 37 (v := ?q2_v19) rfl rfl (by kernel_rfl) (by kernel_rfl) (by kernel_rfl) (fun _ _ _ h => h) (Or.inl ⟨by rfl, ?q2_h19⟩) (by assumption) ?q2_r19
            case q2_h19 => (intro w hSw; (try dsimp only at hSw); go_simp; try (with_reducible rfl))
            simp only [List.set_cons_zero, List.set_cons_succ]
            refine takeH 20 38 (v := ?q2_v20) rfl rfl (by kernel_rfl) (by kernel_rfl) (by kernel_rfl) (fun _ _ _ h => h) (Or.inl ⟨by rfl, ?q2_h20⟩) (by assumption) ?q2_r20
            case q2_h20 => (intro w hSw; (try dsimp only at hSw); go_simp; try (with_reducible rfl))
            simp only [List.set_cons_zero, List.set_cons_succ]
            refine takeH 21 39 (v := undef) rfl rfl (by kernel_rfl) (by kernel_rfl) (by kernel_rfl) (fun _ _ _ h => h) (Or.inr ⟨by rfl, rfl⟩) (by assumption) ?_
            simp only [List.set_cons_zero, List.set_cons_succ]
            refine takeH 22 40 (v := undef) rfl rfl (by kernel_rfl) (by kernel_rfl) (by kernel_rfl) (fun _ _ _ h => h) (Or.inr ⟨by rfl, rfl⟩) (by assumption) ?_
            simp only [List.set_cons_zero, List.set_cons_succ]
            refine takeH 23 41 (v := undef) rfl rfl (by kernel_rfl) (by kernel_rfl) (by kernel_rfl) (fun _ _ _ h => h) (Or.inr ⟨by rfl, rfl⟩) (by assumption) ?_
            simp only [List.set_cons_zero, List.set_cons_succ]
            refine takeH 24 42 (v := undef) rfl rfl (by kernel_rfl) (by kernel_rfl) (by kernel_rfl) (fun _ _ _ h => h) (Or.inr ⟨by rfl, rfl⟩) (by assumption) ?_
            simp only [List.set_cons_zero, List.set_cons_succ]
            refine takeH 25 43 (v := undef) rfl rfl (by kernel_rfl) (by kernel_rfl) (by kernel_rfl) (fun _ _ _ h => h) (Or.inr ⟨by rfl, rfl⟩) (by assumption) ?_
            simp only [List.set_cons_zero, List.set_cons_succ]
            refine takeH 26 44 (v := undef) rfl rfl (by kernel_rfl) (by kernel_rfl) (by kernel_rfl) (fun _ _ _ h => h) (Or.inr ⟨by rfl, rfl⟩) (by assumption) ?_
            simp only [List.set_cons_zero, List.set_cons_succ]
            refine takeH 27 45 (v := undef) rfl rfl (by kernel_rfl) (by kernel_rfl) (by kernel_rfl) (fun _ _ _ h => h) (Or.inr ⟨by rfl, rfl⟩) (by assumption) ?_
            simp only [List.set_cons_zero, List.set_cons_succ]
            refine takeH 28 46 (v := undef) rfl rfl (by kernel_rfl) (by kernel_rfl) (by kernel_rfl) (fun _ _ _ h => h) (Or.inr ⟨by rfl, rfl⟩) (by assumption) ?_
            simp only [List.set_cons_zero, List.set_cons_succ]
            refine takeH 29 47 (v := undef) rfl rfl (by kernel_rfl) (by kernel_rfl) (by kernel_rfl) (fun _ _ _ h => h) (Or.inr ⟨by rfl, rfl⟩) (by assumption) ?_
            simp only [List.set_cons_zero, List.set_cons_succ]
            refine takeH 30 48 (v := undef) rfl rfl (by kernel_rfl) (by kernel_rfl) (by kernel_rfl) (fun _ _ _ h => h) (Or.inr ⟨by rfl, rfl⟩) (by assumption) ?_
            simp only [List.set_cons_zero, List.set_cons_succ]
            refine takeH 31 49 (v := undef) rfl rfl (by kernel_rfl) (by kernel_rfl) (by kernel_rfl) (fun _ _ _ h => h) (Or.inr ⟨by rfl, rfl⟩) (by assumption) ?_
            simp only [List.set_cons_zero, List.set_cons_succ]
            refine takeH 32 50 (v := undef) rfl rfl (by kernel_rfl) (by kernel_rfl) (by kernel_rfl) (fun _ _ _ h => h) (Or.inr ⟨by rfl, rfl⟩) (by assumption) ?_
            simp only [List.set_cons_zero, List.set_cons_succ]
            refine takeH 33 51 (v := undef) rfl rfl (by kernel_rfl) (by kernel_rfl) (by kernel_rfl) (fun _ _ _ h => h) (Or.inr ⟨by rfl, rfl⟩) (by assumption) ?_
            simp only [List.set_cons_zero, List.set_cons_succ]
            refine takeH 34 52 (v := undef) rfl rfl (by kernel_rfl) (by kernel_rfl) (by kernel_rfl) (fun _ _ _ h => h) (Or.inr ⟨by rfl, rfl⟩) (by assumption) ?_
            simp only [List.set_cons_zero, List.set_cons_succ]
            refine takeH 35 53 (v := undef) rfl rfl (by kernel_rfl) (by kernel_rfl) (by kernel_rfl) (fun _ _ _ h => h) (Or.inr ⟨by rfl, rfl⟩) (by assumption) ?_
            simp only [List.set_cons_zero, List.set_cons_succ]
            refine takeH 36 54 (v := undef) rfl rfl (by kernel_rfl) (by kernel_rfl) (by kernel_rfl) (fun _ _ _ h => h) (Or.inr ⟨by rfl, rfl⟩) (by assumption) ?_
            simp only [List.set_cons_zero, List.set_cons_succ]
            refine takeH 37 55 (v := undef) rfl rfl (by kernel_rfl) (by kernel_rfl) (by kernel_rfl) (fun _ _ _ h => h) (Or.inr ⟨by rfl, rfl⟩) (by assumption) ?_
            simp only [List.set_cons_zero, List.set_cons_succ]
            refine takeH 38 56 (v := ?q2_v38) rfl rfl (by kernel_rfl) (by kernel_rfl) (by kernel_rfl) (fun _ _ _ h => h) (Or.inl ⟨by rfl, ?q2_h38⟩) (by assumption) ?q2_r38
            case q2_h38 => (intro w hSw; (try dsimp only at hSw); go_simp; try (with_reducible rfl))
            simp only [List.set_cons_zero, List.set_cons_succ]
            refine wpAnyH_done (by kernel_rfl) ?_ _
            refine NoPanic.normal ?_
            go_wp2_with fail
            go_ret
            exact ⟨ret_bool HF.out.symm, HE.out.S.bel⟩
          | true =>
            obtain ⟨u3, hu3⟩ : ∃ u, lastAhead ((cs.map Ck.l).take i) xl = u := ⟨_, rfl⟩
            rw [hu3] at HG
            by_cases hi0 : i = 0
            · have e3 : u3 = true := by rw [← hu3, hi0]; exact last_zero _ _
              subst e3
              have d0 : ¬ 0 < i := by omega
              clear hu3 hi0
              go_wp2_with fail
              refine wp_region_noPanic ?_
              refine wp_region_held_drew (S := (fun w' => w'.cell? ⟨w.heap.size, 1, none⟩ = some (.slice (some ⟨b, off, none⟩) 1 c) ∧ w'.cell? ⟨w.heap.size + 1, 3, none⟩ = some (.slice (some ⟨b1, off1, none⟩) cs.length cc) ∧ w'.cell? ⟨w.heap.size + 1, 4, none⟩ = some (.slice (some ⟨b2, off2, none⟩) vs.length vc) ∧ w'.cell? ⟨b, off, none⟩ = some (.int .i64 ak) ∧ w'.cell? ⟨b, off + 1, none⟩ = some (.slice aA al.length ac) ∧ w'.cell? ⟨b1, off1 + i, none⟩ = some (.slice xA xl.length xc) ∧ w'.cell? ⟨b2, off2 + i * 5, none⟩ = some (.int .u64 yn) ∧ w'.cell? ⟨b2, off2 + i * 5 + 1, none⟩ = some (.int .u64 ym) ∧ w'.cell? ⟨b2, off2 + i * 5 + 2, none⟩ = some (.slice ysA yss.length ysc) ∧ w'.cell? ⟨b2, off2 + i * 5 + 3, none⟩ = some (.slice ycA ycs.length ycc) ∧ w'.cell? ⟨b2, off2 + i * 5 + 4, none⟩ = some (.slice yvA yvs.length yvc))) (by kernel_rfl) ?_ (fun hHeld => ?_)
              · exact ⟨HE.out.S.i1, HE.out.S.c3, HE.out.S.c4, HE.out.S.s0, HE.out.S.s1, HE.out.x0, HE.out.y0, HE.out.y1, HE.out.y2, HE.out.y3, HE.out.y4⟩
              refine takeH 0 18 (v := ?q3_v0) rfl rfl (by kernel_rfl) (by kernel_rfl) (by kernel_rfl) (fun _ _ _ h => h) (Or.inl ⟨by rfl, ?q3_h0⟩) (by assumption) ?q3_r0
              case q3_h0 => (intro w hSw; (try dsimp only at hSw); go_simp; try (with_reducible rfl))
              simp only [List.set_cons_zero, List.set_cons_succ]
              refine takeH 1 19 (v := ?q3_v1) rfl rfl (by kernel_rfl) (by kernel_rfl) (by kernel_rfl) (fun _ _ _ h => h) (Or.inl ⟨by rfl, ?q3_h1⟩) (by assumption) ?q3_r1
              case q3_h1 => (intro w hSw; (try dsimp only at hSw); go_simp; try (with_reducible rfl))
              simp only [List.set_cons_zero, List.set_cons_succ]
              refine takeH 2 20 (v := ?q3_v2) rfl rfl (by kernel_rfl) (by kernel_rfl) (by kernel_rfl) (fun _ _ _ h => h) (Or.inl ⟨by rfl, ?q3_h2⟩) (by assumption) ?q3_r2
              case q3_h2 => (intro w hSw; (try dsimp only at hSw); go_simp; try (with_reducible rfl))
              simp only [List.set_cons_zero, List.set_cons_succ]
              refine takeH 3 21 (v := ?q3_v3) rfl rfl (by kernel_rfl) (by kernel_rfl) (by kernel_rfl) (fun _ _ _ h => h) (Or.inl ⟨by rfl, ?q3_h3⟩) (by assumption) ?q3_r3
              case q3_h3 => (intro w hSw; (try dsimp only at hSw); go_simp; try (with_reducible rfl))
              simp only [List.set_cons_zero, List.set_cons_succ]
              refine takeH 4 22 (v := ?q3_v4) rfl rfl (by kernel_rfl) (by kernel_rfl) (by kernel_rfl) (fun _ _ _ h => h) (Or.inl ⟨by rfl, ?q3_h4⟩) (by assumption) ?q3_r4
              case q3_h4 => (intro w hSw; (try dsimp only at hSw); go_simp; try (with_reducible rfl))
              simp only [List.set_cons_zero, List.set_cons_succ]
              refine wpAnyH_ready (rs := [5]) (by kernel_rfl) (by simp) ?_
              refine AllReadyH.cons rfl (fun K hK => ?_) AllReadyH.nil
              go_simp
              go_wp2_with (go_at_call 52; refine (refIsC_at xA xc xl _ _ HE.out.ix HU1.out).mono ?_; rintro e w5 ⟨rfl, hb5⟩; (replace HE := Lib.hid (HE.out.later hb5); clear hb5))
              refine hK.out _ _ ?_ (fun hHeld => ?_)
              · exact ⟨HE.out.S.i1, HE.out.S.c3, HE.out.S.c4, HE.out.S.s0, HE.out.S.s1, HE.out.x0, HE.out.y0, HE.out.y1, HE.out.y2, HE.out.y3, HE.out.y4⟩
              clear hK K
              refine takeH 6 24 (v := ?q3_v6) rfl rfl (by kernel_rfl) (by kernel_rfl) (by kernel_rfl) (fun _ _ _ h => h) (Or.inl ⟨by rfl, ?q3_h6⟩) (by assumption) ?q3_r6
              case q3_h6 => (intro w hSw; (try dsimp only at hSw); go_simp; try (with_reducible rfl))
              simp only [List.set_cons_zero, List.set_cons_succ]
              refine takeH 7 25 (v := ?q3_v7) rfl rfl (by kernel_rfl) (by kernel_rfl) (by kernel_rfl) (fun _ _ _ h => h) (Or.inl ⟨by rfl, ?q3_h7⟩) (by assumption) ?q3_r7
              case q3_h7 => (intro w hSw; (try dsimp only at hSw); go_simp; try (with_reducible rfl))
              simp only [List.set_cons_zero, List.set_cons_succ]
              refine takeH 8 26 (v := ?q3_v8) rfl rfl (by kernel_rfl) (by kernel_rfl) (by kernel_rfl) (fun _ _ _ h => h) (Or.inl ⟨by rfl, ?q3_h8⟩) (by assumption) ?q3_r8
              case q3_h8 => (intro w hSw; (try dsimp only at hSw); go_simp; try (with_reducible rfl))
              simp only [List.set_cons_zero, List.set_cons_succ]
              refine takeH 9 27 (v := ?q3_v9) rfl rfl (by kernel_rfl) (by kernel_rfl) (by kernel_rfl) (fun _ _ _ h => h) (Or.inl ⟨by rfl, ?q3_h9⟩) (by assumption) ?q3_r9
              case q3_h9 => (intro w hSw; (try dsimp only at hSw); go_simp; try (with_reducible rfl))
              simp only [List.set_cons_zero, List.set_cons_succ]
              refine takeH 10 28 (v := ?q3_v10) rfl rfl (by kernel_rfl) (by kernel_rfl) (by kernel_rfl) (fun _ _ _ h => h) (Or.inl ⟨by rfl, ?q3_h10⟩) (by assumption) ?q3_r10
              case q3_h10 => (intro w hSw; (try dsimp only at hSw); go_simp; try (with_reducible rfl))
              simp only [List.set_cons_zero, List.set_cons_succ]
              refine takeH 11 29 (v := ?q3_v11) rfl rfl (by kernel_rfl) (by kernel_rfl) (by kernel_rfl) (fun _ _ _ h => h) (Or.inl ⟨by rfl, ?q3_h11⟩) (by assumption) ?q3_r11
              case q3_h11 => (intro w hSw; (try dsimp only at hSw); go_simp; try (with_reducible rfl))
              simp only [List.set_cons_zero, List.set_cons_succ]
              refine takeH 12 30 (v := ?q3_v12) rfl rfl (by kernel_rfl) (by kernel_rfl) (by kernel_rfl) (fun _ _ _ h => h) (Or.inl ⟨by rfl, ?q3_h12⟩) (by assumption) ?q3_r12
              case q3_h12 => (intro w hSw; (try dsimp only at hSw); go_simp; try (with_reducible rfl))
              simp only [List.set_cons_zero, List.set_cons_succ]
              refine takeH 13 31 (v := ?q3_v13) rfl rfl (by kernel_rfl) (by kernel_rfl) (by kernel_rfl) (fun _ _ _ h => h) (Or.inl ⟨by rfl, ?q3_h13⟩) (by assumption) ?q3_r13
              case q3_h13 => (intro w hSw; (try dsimp only at hSw); go_simp; try (with_reducible rfl))
              simp only [List.set_cons_zero, List.set_cons_succ]
              refine takeH 14 32 (v := ?q3_v14) rfl rfl (by kernel_rfl) (by kernel_rfl) (by kernel_rfl) (fun _ _ _ h => h) (Or.inl ⟨by rfl, ?q3_h14⟩) (by assumption) ?q3_r14
              case q3_h14 => (intro w hSw; (try dsimp only at hSw); go_simp; try (with_reducible rfl))
              simp only [List.set_cons_zero, List.set_cons_succ]
              refine takeH 15 33 (v := ?q3_v15) rfl rfl (by kernel_rfl) (by kernel_rfl) (by kernel_rfl) (fun _ _ _ h => h) (Or.inl ⟨by rfl, ?q3_h15⟩) (by assumption) ?q3_r15
              case q3_h15 => (intro w hSw; (try dsimp only at hSw); go_simp; try (with_reducible rfl))
              simp only [List.set_cons_zero, List.set_cons_succ]
              refine takeH 16 34 (v := ?q3_v16) rfl rfl (by kernel_rfl) (by kernel_rfl) (by kernel_rfl) (fun _ _ _ h => h) (Or.inl ⟨by rfl, ?q3_h16⟩) (by assumption) ?q3_r16
              case q3_h16 => (intro w hSw; (try dsimp only at hSw); go_simp; try (with_reducible rfl))
              simp only [List.set_cons_zero, List.set_cons_succ]
              refine wpAnyH_ready (rs := [17]) (by kernel_rfl) (by simp) ?_
              refine AllReadyH.cons rfl (fun K hK => ?_) AllReadyH.nil
              go_simp
              go_wp2_with (go_at_call 32; refine (IH.out (.mk yn ym ysA ysc yss ycA ycc ycs yvA yvc yvs) _ HE.out.ia HE.out.iy).mono ?_; rintro e w6 ⟨rfl, hb5⟩; (rw [HU2.out]; replace HE := Lib.hid (HE.out.later hb5); clear hb5))
              refine hK.out _ _ ?_ (fun hHeld => ?_)
              · exact ⟨HE.out.S.i1, HE.out.S.c3, HE.out.S.c4, HE.out.S.s0, HE.out.S.s1, HE.out.x0, HE.out.y0, HE.out.y1, HE.out.y2, HE.out.y3, HE.out.y4⟩
              clear hK K
              refine takeH 18 36 (v := ?q3_v18) rfl rfl (by kernel_rfl) (by kernel_rfl) (by kernel_rfl) (fun _ _ _ h => h) (Or.inl ⟨by rfl, ?q3_h18⟩) (by assumption) ?q3_r18
              case q3_h18 => (intro w hSw; (try dsimp only at hSw); go_simp; try (with_reducible rfl))
              simp only [List.set_cons_zero, List.set_cons_succ]
              refine takeH 19 37 (v := ?q3_v19) rfl rfl (by kernel_rfl) (by kernel_rfl) (by kernel_rfl) (fun _ _ _ h => h) (Or.inl ⟨by rfl, ?q3_h19⟩) (by assumption) ?q3_r19
              case q3_h19 => (intro w hSw; (try dsimp only at hSw); go_simp; try (with_reducible rfl))
              simp only [List.set_cons_zero, List.set_cons_succ]
              refine takeH 20 38 (v := ?q3_v20) rfl rfl (by kernel_rfl) (by kernel_rfl) (by kernel_rfl) (fun _ _ _ h => h) (Or.inl ⟨by rfl, ?q3_h20⟩) (by assumption) ?q3_r20
              case q3_h20 => (intro w hSw; (try dsimp only at hSw); go_simp; try (with_reducible rfl))
              simp only [List.set_cons_zero, List.set_cons_succ]
              refine takeH 21 39 (v := ?q3_v21) rfl rfl (by kernel_rfl) (by kernel_rfl) (by kernel_rfl) (fun _ _ _ h => h) (Or.inl ⟨by rfl, ?q3_h21⟩) (by assumption) ?q3_r21
              case q3_h21 => (intro w hSw; (try dsimp only at hSw); go_simp; try (with_reducible rfl))
              simp only [List.set_cons_zero, List.set_cons_succ]
              refine takeH 22 40 (v := ?q3_v22) rfl rfl (by kernel_rfl) (by kernel_rfl) (by kernel_rfl) (fun _ _ _ h => h) (Or.inl ⟨by rfl, ?q3_h22⟩) (by assumption) ?q3_r22
              case q3_h22 => (intro w hSw; (try dsimp only at hSw); go_simp; try (with_reducible rfl))
              simp only [List.set_cons_zero, List.set_cons_succ]
              refine takeH 23 41 (v := ?q3_v23) rfl rfl (by kernel_rfl) (by kernel_rfl) (by kernel_rfl) (fun _ _ _ h => h) (Or.inl ⟨by rfl, ?q3_h23⟩) (by assumption) ?q3_r23
              case q3_h23 => (intro w hSw; (try dsimp only at hSw); go_simp; try (with_reducible rfl))
              simp only [List.set_cons_zero, List.set_cons_succ]
              refine takeH 24 42 (v := undef) rfl rfl (by kernel_rfl) (by kernel_rfl) (by kernel_rfl) (fun _ _ _ h => h) (Or.inr ⟨by rfl, rfl⟩) (by assumption) ?_
              simp only [List.set_cons_zero, List.set_cons_succ]
              refine takeH 25 43 (v := undef) rfl rfl (by kernel_rfl) (by kernel_rfl) (by kernel_rfl) (fun _ _ _ h => h) (Or.inr ⟨by rfl, rfl⟩) (by assumption) ?_
              simp only [List.set_cons_zero, List.set_cons_succ]
              refine takeH 26 44 (v := undef) rfl rfl (by kernel_rfl) (by kernel_rfl) (by kernel_rfl) (fun _ _ _ h => h) (Or.inr ⟨by rfl, rfl⟩) (by assumption) ?_
              simp only [List.set_cons_zero, List.set_cons_succ]
              refine takeH 27 45 (v := undef) rfl rfl (by kernel_rfl) (by kernel_rfl) (by kernel_rfl) (fun _ _ _ h => h) (Or.inr ⟨by rfl, rfl⟩) (by assumption) ?_
              simp only [List.set_cons_zero, List.set_cons_succ]
              refine takeH 28 46 (v := undef) rfl rfl (by kernel_rfl) (by kernel_rfl) (by kernel_rfl) (fun _ _ _ h => h) (Or.inr ⟨by rfl, rfl⟩) (by assumption) ?_
              simp only [List.set_cons_zero, List.set_cons_succ]
              refine takeH 29 47 (v := undef) rfl rfl (by kernel_rfl) (by kernel_rfl) (by kernel_rfl) (fun _ _ _ h => h) (Or.inr ⟨by rfl, rfl⟩) (by assumption) ?_
              simp only [List.set_cons_zero, List.set_cons_succ]
              refine takeH 30 48 (v := undef) rfl rfl (by kernel_rfl) (by kernel_rfl) (by kernel_rfl) (fun _ _ _ h => h) (Or.inr ⟨by rfl, rfl⟩) (by assumption) ?_
              simp only [List.set_cons_zero, List.set_cons_succ]
              refine takeH 31 49 (v := undef) rfl rfl (by kernel_rfl) (by kernel_rfl) (by kernel_rfl) (fun _ _ _ h => h) (Or.inr ⟨by rfl, rfl⟩) (by assumption) ?_
              simp only [List.set_cons_zero, List.set_cons_succ]
              refine takeH 32 50 (v := undef) rfl rfl (by kernel_rfl) (by kernel_rfl) (by kernel_rfl) (fun _ _ _ h => h) (Or.inr ⟨by rfl, rfl⟩) (by assumption) ?_
              simp only [List.set_cons_zero, List.set_cons_succ]
              refine takeH 33 51 (v := undef) rfl rfl (by kernel_rfl) (by kernel_rfl) (by kernel_rfl) (fun _ _ _ h => h) (Or.inr ⟨by rfl, rfl⟩) (by assumption) ?_
              simp only [List.set_cons_zero, List.set_cons_succ]
              refine takeH 34 52 (v := undef) rfl rfl (by kernel_rfl) (by kernel_rfl) (by kernel_rfl) (fun _ _ _ h => h) (Or.inr ⟨by rfl, rfl⟩) (by assumption) ?_
              simp only [List.set_cons_zero, List.set_cons_succ]
              refine takeH 35 53 (v := undef) rfl rfl (by kernel_rfl) (by kernel_rfl) (by kernel_rfl) (fun _ _ _ h => h) (Or.inr ⟨by rfl, rfl⟩) (by assumption) ?_
              simp only [List.set_cons_zero, List.set_cons_succ]
              refine takeH 36 54 (v := undef) rfl rfl (by kernel_rfl) (by kernel_rfl) (by kernel_rfl) (fun _ _ _ h => h) (Or.inr ⟨by rfl, rfl⟩) (by assumption) ?_
              simp only [List.set_cons_zero, List.set_cons_succ]
              refine takeH 37 55 (v := ?q3_v37) rfl rfl (by kernel_rfl) (by kernel_rfl) (by kernel_rfl) (fun _ _ _ h => h) (Or.inl ⟨by rfl, ?q3_h37⟩) (by assumption) ?q3_r37
              case q3_h37 => (intro w hSw; (try dsimp only at hSw); go_simp; try (with_reducible rfl))
              simp only [List.set_cons_zero, List.set_cons_succ]
              refine takeH 38 56 (v := ?q3_v38) rfl rfl (by kernel_rfl) (by kernel_rfl) (by kernel_rfl) (fun _ _ _ h => h) (Or.inl ⟨by rfl, ?q3_h38⟩) (by assumption) ?q3_r38
              case q3_h38 => (intro w hSw; (try dsimp only at hSw); go_simp; try (with_reducible rfl))
              simp only [List.set_cons_zero, List.set_cons_succ]
              refine wpAnyH_done (by kernel_rfl) ?_ _
              refine NoPanic.normal ?_
              go_wp2_with fail
              go_loopw [6] (fun kv wr => ∃ (k2 : Nat), k2 ≤ i ∧ kv = .int .i64 k2 ∧ Hid (((cs.map Ck.l).take k2).all (fun d => decide (cmpC d xl = 2)) = true) ∧ Hid (SibE w (some ⟨b, off, none⟩) c b off ak aA ac al (some ⟨b1, off1, none⟩) cc cs.length (some ⟨b2, off2, none⟩) vc vs.length b1 (off1 + i) b2 (off2 + i * 5) ⟨xA, xc, xl⟩ (.mk yn ym ysA ysc yss ycA ycc ycs yvA yvc yvs) wr)) (fun kv _ => i - (intOf kv).toNat)
              case atStart => exact ⟨0, Nat.zero_le _, rfl, by simp [Hid], HE⟩
              case round =>
                clear HE
                rename_i wq
                obtain ⟨k2, hk2, rfl, hall2, HE⟩ := hrel
                by_cases hlt2 : k2 < i
                · exact absurd hlt2 (by omega)
                · have hke : k2 = i := by omega
                  subst hke
                  have HN : Hid (sibGo p ((cs.map Ck.l).take (k2 + 1)) ((cs.map Ck.l).drop (k2 + 1)) ((vs.map Vl.er).drop (k2 + 1)) = R) := by
                    have := HG.out
                    rw [hall2.out] at this
                    exact this
                  go_wp2_with fail
                  go_roundw
                  case rel => exact ⟨k2 + 1, by omega, by go_num, HN, HE.out.S⟩
                  case measure => simp [intOf]; omega
            · obtain ⟨j, hj⟩ : ∃ j, i = j + 1 := ⟨i - 1, by omega⟩
              obtain ⟨z, hz⟩ : ∃ z, cs[j]? = some z := ⟨_, List.getElem?_eq_getElem (by omega)⟩
              have HU3 : Hid (aheadC z.l xl = u3) := by
                show aheadC z.l xl = u3
                rw [← hu3, hj]
                exact (last_succ (map_at (f := Ck.l) hz)).symm
              obtain ⟨b3, off3, he3, hb3, hcz⟩ := clock_at (HP.out.cl.below HE.out.S.bel) hz
              obtain ⟨rfl, rfl⟩ : b1 = b3 ∧ off1 = off3 := by cases he3; exact ⟨rfl, rfl⟩
              have HZ : Hid (SibZ b1 (off1 + j) z wr.drew) := ⟨hcz, HE.out.l1, (HP.out.ck z (List.mem_of_getElem? hz)).later HE.out.S.bel⟩
              obtain ⟨zA, zc, zl⟩ := z
              dsimp only at HU3
              have d0 : 0 < i := by omega
              have s1 : IntKind.i64.wrap ((i : Int) - 1) = (i : Int) - 1 := IntWalk.i64_in _ (by omega)
              have s2 : 0 ≤ (i : Int) - 1 := by omega
              have s3 : ((i : Int) - 1).toNat = j := by omega
              have s4 : (i : Int) - 1 < (cs.length : Int) := by omega
              have s5 : 1 ≤ (i : Int) := by omega
              clear hu3 hi0 hz he3 hcz hj
              cases u3 with
              | false =>
                have HF : Hid (R = false) := by show R = false; rw [← HG.out]; rfl
                go_wp2_with fail
                refine wp_region_noPanic ?_
                refine wp_region_held_drew (S := (fun w' => w'.cell? ⟨w.heap.size, 1, none⟩ = some (.slice (some ⟨b, off, none⟩) 1 c) ∧ w'.cell? ⟨w.heap.size + 1, 3, none⟩ = some (.slice (some ⟨b1, off1, none⟩) cs.length cc) ∧ w'.cell? ⟨w.heap.size + 1, 4, none⟩ = some (.slice (some ⟨b2, off2, none⟩) vs.length vc) ∧ w'.cell? ⟨b, off, none⟩ = some (.int .i64 ak) ∧ w'.cell? ⟨b, off + 1, none⟩ = some (.slice aA al.length ac) ∧ w'.cell? ⟨b1, off1 + i, none⟩ = some (.slice xA xl.length xc) ∧ w'.cell? ⟨b2, off2 + i * 5, none⟩ = some (.int .u64 yn) ∧ w'.cell? ⟨b2, off2 + i * 5 + 1, none⟩ = some (.int .u64 ym) ∧ w'.cell? ⟨b2, off2 + i * 5 + 2, none⟩ = some (.slice ysA yss.length ysc) ∧ w'.cell? ⟨b2, off2 + i * 5 + 3, none⟩ = some (.slice ycA ycs.length ycc) ∧ w'.cell? ⟨b2, off2 + i * 5 + 4, none⟩ = some (.slice yvA yvs.length yvc) ∧ w'.cell? ⟨b1, off1 + j, none⟩ = some (.slice zA zl.length zc))) (by kernel_rfl) ?_ (fun hHeld => ?_)
                · exact ⟨HE.out.S.i1, HE.out.S.c3, HE.out.S.c4, HE.out.S.s0, HE.out.S.s1, HE.out.x0, HE.out.y0, HE.out.y1, HE.out.y2, HE.out.y3, HE.out.y4, HZ.out.x0⟩
                refine takeH 0 18 (v := ?q4_v0) rfl rfl (by kernel_rfl) (by kernel_rfl) (by kernel_rfl) (fun _ _ _ h => h) (Or.inl ⟨by rfl, ?q4_h0⟩) (by assumption) ?q4_r0
                case q4_h0 => (intro w hSw; (try dsimp only at hSw); go_simp; try (with_reducible rfl))
                simp only [List.set_cons_zero, List.set_cons_succ]
                refine takeH 1 19 (v := ?q4_v1) rfl rfl (by kernel_rfl) (by kernel_rfl) (by kernel_rfl) (fun _ _ _ h => h) (Or.inl ⟨by rfl, ?q4_h1⟩) (by assumption) ?q4_r1
                case q4_h1 => (intro w hSw; (try dsimp only at hSw); go_simp; try (with_reducible rfl))
                simp only [List.set_cons_zero, List.set_cons_succ]
                refine takeH 2 20 (v := ?q4_v2) rfl rfl (by kernel_rfl) (by kernel_rfl) (by kernel_rfl) (fun _ _ _ h => h) (Or.inl ⟨by rfl, ?q4_h2⟩) (by assumption) ?q4_r2
                case q4_h2 => (intro w hSw; (try dsimp only at hSw); go_simp; try (with_reducible rfl))
                simp only [List.set_cons_zero, List.set_cons_succ]
                refine takeH 3 21 (v := ?q4_v3) rfl rfl (by kernel_rfl) (by kernel_rfl) (by kernel_rfl) (fun _ _ _ h => h) (Or.inl ⟨by rfl, ?q4_h3⟩) (by assumption) ?q4_r3
                case q4_h3 => (intro w hSw; (try dsimp only at hSw); go_simp; try (with_reducible rfl))
                simp only [List.set_cons_zero, List.set_cons_succ]
                refine takeH 4 22 (v := ?q4_v4) rfl rfl (by kernel_rfl) (by kernel_rfl) (by kernel_rfl) (fun _ _ _ h => h) (Or.inl ⟨by rfl, ?q4_h4⟩) (by assumption) ?q4_r4
                case q4_h4 => (intro w hSw; (try dsimp only at hSw); go_simp; try (with_reducible rfl))
                simp only [List.set_cons_zero, List.set_cons_succ]
                refine wpAnyH_ready (rs := [5]) (by kernel_rfl) (by simp) ?_
                refine AllReadyH.cons rfl (fun K hK => ?_) AllReadyH.nil
                go_simp
                go_wp2_with (go_at_call 52; refine (refIsC_at xA xc xl _ _ HE.out.ix HU1.out).mono ?_; rintro e w5 ⟨rfl, hb5⟩; (replace HE := Lib.hid (HE.out.later hb5); replace HZ := Lib.hid (HZ.out.later hb5); clear hb5))
                refine hK.out _ _ ?_ (fun hHeld => ?_)
                · exact ⟨HE.out.S.i1, HE.out.S.c3, HE.out.S.c4, HE.out.S.s0, HE.out.S.s1, HE.out.x0, HE.out.y0, HE.out.y1, HE.out.y2, HE.out.y3, HE.out.y4, HZ.out.x0⟩
                clear hK K
                refine takeH 6 24 (v := ?q4_v6) rfl rfl (by kernel_rfl) (by kernel_rfl) (by kernel_rfl) (fun _ _ _ h => h) (Or.inl ⟨by rfl, ?q4_h6⟩) (by assumption) ?q4_r6
                case q4_h6 => (intro w hSw; (try dsimp only at hSw); go_simp; try (with_reducible rfl))
                simp only [List.set_cons_zero, List.set_cons_succ]
                refine takeH 7 25 (v := ?q4_v7) rfl rfl (by kernel_rfl) (by kernel_rfl) (by kernel_rfl) (fun _ _ _ h => h) (Or.inl ⟨by rfl, ?q4_h7⟩) (by assumption) ?q4_r7
                case q4_h7 => (intro w hSw; (try dsimp only at hSw); go_simp; try (with_reducible rfl))
                simp only [List.set_cons_zero, List.set_cons_succ]
                refine takeH 8 26 (v := ?q4_v8) rfl rfl (by kernel_rfl) (by kernel_rfl) (by kernel_rfl) (fun _ _ _ h => h) (Or.inl ⟨by rfl, ?q4_h8⟩) (by assumption) ?q4_r8
                case q4_h8 => (intro w hSw; (try dsimp only at hSw); go_simp; try (with_reducible rfl))
                simp only [List.set_cons_zero, List.set_cons_succ]
                refine takeH 9 27 (v := ?q4_v9) rfl rfl (by kernel_rfl) (by kernel_rfl) (by kernel_rfl) (fun _ _ _ h => h) (Or.inl ⟨by rfl, ?q4_h9⟩) (by assumption) ?q4_r9
                case q4_h9 => (intro w hSw; (try dsimp only at hSw); go_simp; try (with_reducible rfl))
                simp only [List.set_cons_zero, List.set_cons_succ]
                refine takeH 10 28 (v := ?q4_v10) rfl rfl (by kernel_rfl) (by kernel_rfl) (by kernel_rfl) (fun _ _ _ h => h) (Or.inl ⟨by rfl, ?q4_h10⟩) (by assumption) ?q4_r10
                case q4_h10 => (intro w hSw; (try dsimp only at hSw); go_simp; try (with_reducible rfl))
                simp only [List.set_cons_zero, List.set_cons_succ]
                refine takeH 11 29 (v := ?q4_v11) rfl rfl (by kernel_rfl) (by kernel_rfl) (by kernel_rfl) (fun _ _ _ h => h) (Or.inl ⟨by rfl, ?q4_h11⟩) (by assumption) ?q4_r11
                case q4_h11 => (intro w hSw; (try dsimp only at hSw); go_simp; try (with_reducible rfl))
                simp only [List.set_cons_zero, List.set_cons_succ]
                refine takeH 12 30 (v := ?q4_v12) rfl rfl (by kernel_rfl) (by kernel_rfl) (by kernel_rfl) (fun _ _ _ h => h) (Or.inl ⟨by rfl, ?q4_h12⟩) (by assumption) ?q4_r12
                case q4_h12 => (intro w hSw; (try dsimp only at hSw); go_simp; try (with_reducible rfl))
                simp only [List.set_cons_zero, List.set_cons_succ]
                refine takeH 13 31 (v := ?q4_v13) rfl rfl (by kernel_rfl) (by kernel_rfl) (by kernel_rfl) (fun _ _ _ h => h) (Or.inl ⟨by rfl, ?q4_h13⟩) (by assumption) ?q4_r13
                case q4_h13 => (intro w hSw; (try dsimp only at hSw); go_simp; try (with_reducible rfl))
                simp only [List.set_cons_zero, List.set_cons_succ]
                refine takeH 14 32 (v := ?q4_v14) rfl rfl (by kernel_rfl) (by kernel_rfl) (by kernel_rfl) (fun _ _ _ h => h) (Or.inl ⟨by rfl, ?q4_h14⟩) (by assumption) ?q4_r14
                case q4_h14 => (intro w hSw; (try dsimp only at hSw); go_simp; try (with_reducible rfl))
                simp only [List.set_cons_zero, List.set_cons_succ]
                refine takeH 15 33 (v := ?q4_v15) rfl rfl (by kernel_rfl) (by kernel_rfl) (by kernel_rfl) (fun _ _ _ h => h) (Or.inl ⟨by rfl, ?q4_h15⟩) (by assumption) ?q4_r15
                case q4_h15 => (intro w hSw; (try dsimp only at hSw); go_simp; try (with_reducible rfl))
                simp only [List.set_cons_zero, List.set_cons_succ]
                refine takeH 16 34 (v := ?q4_v16) rfl rfl (by kernel_rfl) (by kernel_rfl) (by kernel_rfl) (fun _ _ _ h => h) (Or.inl ⟨by rfl, ?q4_h16⟩) (by assumption) ?q4_r16
                case q4_h16 => (intro w hSw; (try dsimp only at hSw); go_simp; try (with_reducible rfl))
                simp only [List.set_cons_zero, List.set_cons_succ]
                refine wpAnyH_ready (rs := [17]) (by kernel_rfl) (by simp) ?_
                refine AllReadyH.cons rfl (fun K hK => ?_) AllReadyH.nil
                go_simp
                go_wp2_with (go_at_call 32; refine (IH.out (.mk yn ym ysA ysc yss ycA ycc ycs yvA yvc yvs) _ HE.out.ia HE.out.iy).mono ?_; rintro e w6 ⟨rfl, hb5⟩; (rw [HU2.out]; replace HE := Lib.hid (HE.out.later hb5); replace HZ := Lib.hid (HZ.out.later hb5); clear hb5))
                refine hK.out _ _ ?_ (fun hHeld => ?_)
                · exact ⟨HE.out.S.i1, HE.out.S.c3, HE.out.S.c4, HE.out.S.s0, HE.out.S.s1, HE.out.x0, HE.out.y0, HE.out.y1, HE.out.y2, HE.out.y3, HE.out.y4, HZ.out.x0⟩
                clear hK K
                refine takeH 18 36 (v := ?q4_v18) rfl rfl (by kernel_rfl) (by kernel_rfl) (by kernel_rfl) (fun _ _ _ h => h) (Or.inl ⟨by rfl, ?q4_h18⟩) (by assumption) ?q4_r18
                case q4_h18 => (intro w hSw; (try dsimp only at hSw); go_simp; try (with_reducible rfl))
                simp only [List.set_cons_zero, List.set_cons_succ]
                refine takeH 19 37 (v := ?q4_v19) rfl rfl (by kernel_rfl) (by kernel_rfl) (by kernel_rfl) (fun _ _ _ h => h) (Or.inl ⟨by rfl, ?q4_h19⟩) (by assumption) ?q4_r19
                case q4_h19 => (intro w hSw; (try dsimp only at hSw); go_simp; try (with_reducible rfl))
                simp only [List.set_cons_zero, List.set_cons_succ]
                refine takeH 20 38 (v := ?q4_v20) rfl rfl (by kernel_rfl) (by kernel_rfl) (by kernel_rfl) (fun _ _ _ h => h) (Or.inl ⟨by rfl, ?q4_h20⟩) (by assumption) ?q4_r20
                case q4_h20 => (intro w hSw; (try dsimp only at hSw); go_simp; try (with_reducible rfl))
                simp only [List.set_cons_zero, List.set_cons_succ]
                refine takeH 21 39 (v := ?q4_v21) rfl rfl (by kernel_rfl) (by kernel_rfl) (by kernel_rfl) (fun _ _ _ h => h) (Or.inl ⟨by rfl, ?q4_h21⟩) (by assumption) ?q4_r21
                case q4_h21 => (intro w hSw; (try dsimp only at hSw); go_simp; try (with_reducible rfl))
                simp only [List.set_cons_zero, List.set_cons_succ]
                refine takeH 22 40 (v := ?q4_v22) rfl rfl (by kernel_rfl) (by kernel_rfl) (by kernel_rfl) (fun _ _ _ h => h) (Or.inl ⟨by rfl, ?q4_h22⟩) (by assumption) ?q4_r22
                case q4_h22 => (intro w hSw; (try dsimp only at hSw); go_simp; try (with_reducible rfl))
                simp only [List.set_cons_zero, List.set_cons_succ]
                refine takeH 23 41 (v := ?q4_v23) rfl rfl (by kernel_rfl) (by kernel_rfl) (by kernel_rfl) (fun _ _ _ h => h) (Or.inl ⟨by rfl, ?q4_h23⟩) (by assumption) ?q4_r23
                case q4_h23 => (intro w hSw; (try dsimp only at hSw); go_simp; try (with_reducible rfl))
                simp only [List.set_cons_zero, List.set_cons_succ]
                refine takeH 24 42 (v := ?q4_v24) rfl rfl (by kernel_rfl) (by kernel_rfl) (by kernel_rfl) (fun _ _ _ h => h) (Or.inl ⟨by rfl, ?q4_h24⟩) (by assumption) ?q4_r24
                case q4_h24 => (intro w hSw; (try dsimp only at hSw); go_simp; try (with_reducible rfl))
                simp only [List.set_cons_zero, List.set_cons_succ]
                refine takeH 25 43 (v := ?q4_v25) rfl rfl (by kernel_rfl) (by kernel_rfl) (by kernel_rfl) (fun _ _ _ h => h) (Or.inl ⟨by rfl, ?q4_h25⟩) (by assumption) ?q4_r25
                case q4_h25 => (intro w hSw; (try dsimp only at hSw); go_simp; try (with_reducible rfl))
                simp only [List.set_cons_zero, List.set_cons_succ]
                refine takeH 26 44 (v := ?q4_v26) rfl rfl (by kernel_rfl) (by kernel_rfl) (by kernel_rfl) (fun _ _ _ h => h) (Or.inl ⟨by rfl, ?q4_h26⟩) (by assumption) ?q4_r26
                case q4_h26 => (intro w hSw; (try dsimp only at hSw); go_simp; try (with_reducible rfl))
                simp only [List.set_cons_zero, List.set_cons_succ]
                refine takeH 27 45 (v := ?q4_v27) rfl rfl (by kernel_rfl) (by kernel_rfl) (by kernel_rfl) (fun _ _ _ h => h) (Or.inl ⟨by rfl, ?q4_h27⟩) (by assumption) ?q4_r27
                case q4_h27 => (intro w hSw; (try dsimp only at hSw); go_simp; try (with_reducible rfl))
                simp only [List.set_cons_zero, List.set_cons_succ]
                refine takeH 28 46 (v := ?q4_v28) rfl rfl (by kernel_rfl) (by kernel_rfl) (by kernel_rfl) (fun _ _ _ h => h) (Or.inl ⟨by rfl, ?q4_h28⟩) (by assumption) ?q4_r28
                case q4_h28 => (intro w hSw; (try dsimp only at hSw); go_simp; try (with_reducible rfl))
                simp only [List.set_cons_zero, List.set_cons_succ]
                refine takeH 29 47 (v := ?q4_v29) rfl rfl (by kernel_rfl) (by kernel_rfl) (by kernel_rfl) (fun _ _ _ h => h) (Or.inl ⟨by rfl, ?q4_h29⟩) (by assumption) ?q4_r29
                case q4_h29 => (intro w hSw; (try dsimp only at hSw); go_simp; try (with_reducible rfl))
                simp only [List.set_cons_zero, List.set_cons_succ]
                refine takeH 30 48 (v := ?q4_v30) rfl rfl (by kernel_rfl) (by kernel_rfl) (by kernel_rfl) (fun _ _ _ h => h) (Or.inl ⟨by rfl, ?q4_h30⟩) (by assumption) ?q4_r30
                case q4_h30 => (intro w hSw; (try dsimp only at hSw); go_simp; try (with_reducible rfl))
                simp only [List.set_cons_zero, List.set_cons_succ]
                refine takeH 31 49 (v := ?q4_v31) rfl rfl (by kernel_rfl) (by kernel_rfl) (by kernel_rfl) (fun _ _ _ h => h) (Or.inl ⟨by rfl, ?q4_h31⟩) (by assumption) ?q4_r31
                case q4_h31 => (intro w hSw; (try dsimp only at hSw); go_simp; try (with_reducible rfl))
                simp only [List.set_cons_zero, List.set_cons_succ]
                refine takeH 32 50 (v := ?q4_v32) rfl rfl (by kernel_rfl) (by kernel_rfl) (by kernel_rfl) (fun _ _ _ h => h) (Or.inl ⟨by rfl, ?q4_h32⟩) (by assumption) ?q4_r32
                case q4_h32 => (intro w hSw; (try dsimp only at hSw); go_simp; try (with_reducible rfl))
                simp only [List.set_cons_zero, List.set_cons_succ]
                refine takeH 33 51 (v := ?q4_v33) rfl rfl (by kernel_rfl) (by kernel_rfl) (by kernel_rfl) (fun _ _ _ h => h) (Or.inl ⟨by rfl, ?q4_h33⟩) (by assumption) ?q4_r33
                case q4_h33 => (intro w hSw; (try dsimp only at hSw); go_simp; try (with_reducible rfl))
                simp only [List.set_cons_zero, List.set_cons_succ]
                refine takeH 34 52 (v := ?q4_v34) rfl rfl (by kernel_rfl) (by kernel_rfl) (by kernel_rfl) (fun _ _ _ h => h) (Or.inl ⟨by rfl, ?q4_h34⟩) (by assumption) ?q4_r34
                case q4_h34 => (intro w hSw; (try dsimp only at hSw); go_simp; try (with_reducible rfl))
                simp only [List.set_cons_zero, List.set_cons_succ]
                refine wpAnyH_ready (rs := [35]) (by kernel_rfl) (by simp) ?_
                refine AllReadyH.cons rfl (fun K hK => ?_) AllReadyH.nil
                go_simp
                go_wp2_with (go_at_call 82; refine (refAhead_at zA xA zc xc zl xl _ _ HZ.out.ix HE.out.ix HU3.out).mono ?_; rintro e w7 ⟨rfl, hb5⟩; (replace HE := Lib.hid (HE.out.later hb5); replace HZ := Lib.hid (HZ.out.later hb5); clear hb5))
                refine hK.out _ _ ?_ (fun hHeld => ?_)
                · exact ⟨HE.out.S.i1, HE.out.S.c3, HE.out.S.c4, HE.out.S.s0, HE.out.S.s1, HE.out.x0, HE.out.y0, HE.out.y1, HE.out.y2, HE.out.y3, HE.out.y4, HZ.out.x0⟩
                clear hK K
                refine takeH 36 54 (v := ?q4_v36) rfl rfl (by kernel_rfl) (by kernel_rfl) (by kernel_rfl) (fun _ _ _ h => h) (Or.inl ⟨by rfl, ?q4_h36⟩) (by assumption) ?q4_r36
                case q4_h36 => (intro w hSw; (try dsimp only at hSw); go_simp; try (with_reducible rfl))
                simp only [List.set_cons_zero, List.set_cons_succ]
                refine takeH 37 55 (v := ?q4_v37) rfl rfl (by kernel_rfl) (by kernel_rfl) (by kernel_rfl) (fun _ _ _ h => h) (Or.inl ⟨by rfl, ?q4_h37⟩) (by assumption) ?q4_r37
                case q4_h37 => (intro w hSw; (try dsimp only at hSw); go_simp; try (with_reducible rfl))
                simp only [List.set_cons_zero, List.set_cons_succ]
                refine takeH 38 56 (v := ?q4_v38) rfl rfl (by kernel_rfl) (by kernel_rfl) (by kernel_rfl) (fun _ _ _ h => h) (Or.inl ⟨by rfl, ?q4_h38⟩) (by assumption) ?q4_r38
                case q4_h38 => (intro w hSw; (try dsimp only at hSw); go_simp; try (with_reducible rfl))
                simp only [List.set_cons_zero, List.set_cons_succ]
                refine wpAnyH_done (by kernel_rfl) ?_ _
                refine NoPanic.normal ?_
                go_wp2_with fail
                go_ret
                exact ⟨ret_bool HF.out.symm, HE.out.S.bel⟩
              | true =>
                go_wp2_with fail
                refine wp_region_noPanic ?_
                refine wp_region_held_drew (S := (fun w' => w'.cell? ⟨w.heap.size, 1, none⟩ = some (.slice (some ⟨b, off, none⟩) 1 c) ∧ w'.cell? ⟨w.heap.size + 1, 3, none⟩ = some (.slice (some ⟨b1, off1, none⟩) cs.length cc) ∧ w'.cell? ⟨w.heap.size + 1, 4, none⟩ = some (.slice (some ⟨b2, off2, none⟩) vs.length vc) ∧ w'.cell? ⟨b, off, none⟩ = some (.int .i64 ak) ∧ w'.cell? ⟨b, off + 1, none⟩ = some (.slice aA al.length ac) ∧ w'.cell? ⟨b1, off1 + i, none⟩ = some (.slice xA xl.length xc) ∧ w'.cell? ⟨b2, off2 + i * 5, none⟩ = some (.int .u64 yn) ∧ w'.cell? ⟨b2, off2 + i * 5 + 1, none⟩ = some (.int .u64 ym) ∧ w'.cell? ⟨b2, off2 + i * 5 + 2, none⟩ = some (.slice ysA yss.length ysc) ∧ w'.cell? ⟨b2, off2 + i * 5 + 3, none⟩ = some (.slice ycA ycs.length ycc) ∧ w'.cell? ⟨b2, off2 + i * 5 + 4, none⟩ = some (.slice yvA yvs.length yvc) ∧ w'.cell? ⟨b1, off1 + j, none⟩ = some (.slice zA zl.length zc))) (by kernel_rfl) ?_ (fun hHeld => ?_)
                · exact ⟨HE.out.S.i1, HE.out.S.c3, HE.out.S.c4, HE.out.S.s0, HE.out.S.s1, HE.out.x0, HE.out.y0, HE.out.y1, HE.out.y2, HE.out.y3, HE.out.y4, HZ.out.x0⟩
                refine takeH 0 18 (v := ?q5_v0) rfl rfl (by kernel_rfl) (by kernel_rfl) (by kernel_rfl) (fun _ _ _ h => h) (Or.inl ⟨by rfl, ?q5_h0⟩) (by assumption) ?q5_r0
                case q5_h0 => (intro w hSw; (try dsimp only at hSw); go_simp; try (with_reducible rfl))
                simp only [List.set_cons_zero, List.set_cons_succ]
                refine takeH 1 19 (v := ?q5_v1) rfl rfl (by kernel_rfl) (by kernel_rfl) (by kernel_rfl) (fun _ _ _ h => h) (Or.inl ⟨by rfl, ?q5_h1⟩) (by assumption) ?q5_r1
                case q5_h1 => (intro w hSw; (try dsimp only at hSw); go_simp; try (with_reducible rfl))
                simp only [List.set_cons_zero, List.set_cons_succ]
                refine takeH 2 20 (v := ?q5_v2) rfl rfl (by kernel_rfl) (by kernel_rfl) (by kernel_rfl) (fun _ _ _ h => h) (Or.inl ⟨by rfl, ?q5_h2⟩) (by assumption) ?q5_r2
                case q5_h2 => (intro w hSw; (try dsimp only at hSw); go_simp; try (with_reducible rfl))
                simp only [List.set_cons_zero, List.set_cons_succ]
                refine takeH 3 21 (v := ?q5_v3) rfl rfl (by kernel_rfl) (by kernel_rfl) (by kernel_rfl) (fun _ _ _ h => h) (Or.inl ⟨by rfl, ?q5_h3⟩) (by assumption) ?q5_r3
                case q5_h3 => (intro w hSw; (try dsimp only at hSw); go_simp; try (with_reducible rfl))
                simp only [List.set_cons_zero, List.set_cons_succ]
                refine takeH 4 22 (v := ?q5_v4) rfl rfl (by kernel_rfl) (by kernel_rfl) (by kernel_rfl) (fun _ _ _ h => h) (Or.inl ⟨by rfl, ?q5_h4⟩) (by assumption) ?q5_r4
                case q5_h4 => (intro w hSw; (try dsimp only at hSw); go_simp; try (with_reducible rfl))
                simp only [List.set_cons_zero, List.set_cons_succ]
                refine wpAnyH_ready (rs := [5]) (by kernel_rfl) (by simp) ?_
                refine AllReadyH.cons rfl (fun K hK => ?_) AllReadyH.nil
                go_simp
                go_wp2_with (go_at_call 52; refine (refIsC_at xA xc xl _ _ HE.out.ix HU1.out).mono ?_; rintro e w5 ⟨rfl, hb5⟩; (replace HE := Lib.hid (HE.out.later hb5); replace HZ := Lib.hid (HZ.out.later hb5); clear hb5))
                refine hK.out _ _ ?_ (fun hHeld => ?_)
                · exact ⟨HE.out.S.i1, HE.out.S.c3, HE.out.S.c4, HE.out.S.s0, HE.out.S.s1, HE.out.x0, HE.out.y0, HE.out.y1, HE.out.y2, HE.out.y3, HE.out.y4, HZ.out.x0⟩
                clear hK K
                refine takeH 6 24 (v := ?q5_v6) rfl rfl (by kernel_rfl) (by kernel_rfl) (by kernel_rfl) (fun _ _ _ h => h) (Or.inl ⟨by rfl, ?q5_h6⟩) (by assumption) ?q5_r6
                case q5_h6 => (intro w hSw; (try dsimp only at hSw); go_simp; try (with_reducible rfl))
                simp only [List.set_cons_zero, List.set_cons_succ]
                refine takeH 7 25 (v := ?q5_v7) rfl rfl (by kernel_rfl) (by kernel_rfl) (by kernel_rfl) (fun _ _ _ h => h) (Or.inl ⟨by rfl, ?q5_h7⟩) (by assumption) ?q5_r7
                case q5_h7 => (intro w hSw; (try dsimp only at hSw); go_simp; try (with_reducible rfl))
                simp only [List.set_cons_zero, List.set_cons_succ]
                refine takeH 8 26 (v := ?q5_v8) rfl rfl (by kernel_rfl) (by kernel_rfl) (by kernel_rfl) (fun _ _ _ h => h) (Or.inl ⟨by rfl, ?q5_h8⟩) (by assumption) ?q5_r8
                case q5_h8 => (intro w hSw; (try dsimp only at hSw); go_simp; try (with_reducible rfl))
                simp only [List.set_cons_zero, List.set_cons_succ]
                refine takeH 9 27 (v := ?q5_v9) rfl rfl (by kernel_rfl) (by kernel_rfl) (by kernel_rfl) (fun _ _ _ h => h) (Or.inl ⟨by rfl, ?q5_h9⟩) (by assumption) ?q5_r9
                case q5_h9 => (intro w hSw; (try dsimp only at hSw); go_simp; try (with_reducible rfl))
                simp only [List.set_cons_zero, List.set_cons_succ]
                refine takeH 10 28 (v := ?q5_v10) rfl rfl (by kernel_rfl) (by kernel_rfl) (by kernel_rfl) (fun _ _ _ h => h) (Or.inl ⟨by rfl, ?q5_h10⟩) (by assumption) ?q5_r10
                case q5_h10 => (intro w hSw; (try dsimp only at hSw); go_simp; try (with_reducible rfl))
                simp only [List.set_cons_zero, List.set_cons_succ]
                refine takeH 11 29 (v := ?q5_v11) rfl rfl (by kernel_rfl) (by kernel_rfl) (by kernel_rfl) (fun _ _ _ h => h) (Or.inl ⟨by rfl, ?q5_h11⟩) (by assumption) ?q5_r11
                case q5_h11 => (intro w hSw; (try dsimp only at hSw); go_simp; try (with_reducible rfl))
                simp only [List.set_cons_zero, List.set_cons_succ]
                refine takeH 12 30 (v := ?q5_v12) rfl rfl (by kernel_rfl) (by kernel_rfl) (by kernel_rfl) (fun _ _ _ h => h) (Or.inl ⟨by rfl, ?q5_h12⟩) (by assumption) ?q5_r12
                case q5_h12 => (intro w hSw; (try dsimp only at hSw); go_simp; try (with_reducible rfl))
                simp only [List.set_cons_zero, List.set_cons_succ]
                refine takeH 13 31 (v := ?q5_v13) rfl rfl (by kernel_rfl) (by kernel_rfl) (by kernel_rfl) (fun _ _ _ h => h) (Or.inl ⟨by rfl, ?q5_h13⟩) (by assumption) ?q5_r13
                case q5_h13 => (intro w hSw; (try dsimp only at hSw); go_simp; try (with_reducible rfl))
                simp only [List.set_cons_zero, List.set_cons_succ]
                refine takeH 14 32 (v := ?q5_v14) rfl rfl (by kernel_rfl) (by kernel_rfl) (by kernel_rfl) (fun _ _ _ h => h) (Or.inl ⟨by rfl, ?q5_h14⟩) (by assumption) ?q5_r14
                case q5_h14 => (intro w hSw; (try dsimp only at hSw); go_simp; try (with_reducible rfl))
                simp only [List.set_cons_zero, List.set_cons_succ]
                refine takeH 15 33 (v := ?q5_v15) rfl rfl (by kernel_rfl) (by kernel_rfl) (by kernel_rfl) (fun _ _ _ h => h) (Or.inl ⟨by rfl, ?q5_h15⟩) (by assumption) ?q5_r15
                case q5_h15 => (intro w hSw; (try dsimp only at hSw); go_simp; try (with_reducible rfl))
                simp only [List.set_cons_zero, List.set_cons_succ]
                refine takeH 16 34 (v := ?q5_v16) rfl rfl (by kernel_rfl) (by kernel_rfl) (by kernel_rfl) (fun _ _ _ h => h) (Or.inl ⟨by rfl, ?q5_h16⟩) (by assumption) ?q5_r16
                case q5_h16 => (intro w hSw; (try dsimp only at hSw); go_simp; try (with_reducible rfl))
                simp only [List.set_cons_zero, List.set_cons_succ]
                refine wpAnyH_ready (rs := [17]) (by kernel_rfl) (by simp) ?_
                refine AllReadyH.cons rfl (fun K hK => ?_) AllReadyH.nil
                go_simp
                go_wp2_with (go_at_call 32; refine (IH.out (.mk yn ym ysA ysc yss ycA ycc ycs yvA yvc yvs) _ HE.out.ia HE.out.iy).mono ?_; rintro e w6 ⟨rfl, hb5⟩; (rw [HU2.out]; replace HE := Lib.hid (HE.out.later hb5); replace HZ := Lib.hid (HZ.out.later hb5); clear hb5))
                refine hK.out _ _ ?_ (fun hHeld => ?_)
                · exact ⟨HE.out.S.i1, HE.out.S.c3, HE.out.S.c4, HE.out.S.s0, HE.out.S.s1, HE.out.x0, HE.out.y0, HE.out.y1, HE.out.y2, HE.out.y3, HE.out.y4, HZ.out.x0⟩
                clear hK K
                refine takeH 18 36 (v := ?q5_v18) rfl rfl (by kernel_rfl) (by kernel_rfl) (by kernel_rfl) (fun _ _ _ h => h) (Or.inl ⟨by rfl, ?q5_h18⟩) (by assumption) ?q5_r18
                case q5_h18 => (intro w hSw; (try dsimp only at hSw); go_simp; try (with_reducible rfl))
                simp only [List.set_cons_zero, List.set_cons_succ]
                refine takeH 19 37 (v := ?q5_v19) rfl rfl (by kernel_rfl) (by kernel_rfl) (by kernel_rfl) (fun _ _ _ h => h) (Or.inl ⟨by rfl, ?q5_h19⟩) (by assumption) ?q5_r19
                case q5_h19 => (intro w hSw; (try dsimp only at hSw); go_simp; try (with_reducible rfl))
                simp only [List.set_cons_zero, List.set_cons_succ]
                refine takeH 20 38 (v := ?q5_v20) rfl rfl (by kernel_rfl) (by kernel_rfl) (by kernel_rfl) (fun _ _ _ h => h) (Or.inl ⟨by rfl, ?q5_h20⟩) (by assumption) ?q5_r20
                case q5_h20 => (intro w hSw; (try dsimp only at hSw); go_simp; try (with_reducible rfl))
                simp only [List.set_cons_zero, List.set_cons_succ]
                refine takeH 21 39 (v := ?q5_v21) rfl rfl (by kernel_rfl) (by kernel_rfl) (by kernel_rfl) (fun _ _ _ h => h) (Or.inl ⟨by rfl, ?q5_h21⟩) (by assumption) ?q5_r21
                case q5_h21 => (intro w hSw; (try dsimp only at hSw); go_simp; try (with_reducible rfl))
                simp only [List.set_cons_zero, List.set_cons_succ]
                refine takeH 22 40 (v := ?q5_v22) rfl rfl (by kernel_rfl) (by kernel_rfl) (by kernel_rfl) (fun _ _ _ h => h) (Or.inl ⟨by rfl, ?q5_h22⟩) (by assumption) ?q5_r22
                case q5_h22 => (intro w hSw; (try dsimp only at hSw); go_simp; try (with_reducible rfl))
                simp only [List.set_cons_zero, List.set_cons_succ]
                refine takeH 23 41 (v := ?q5_v23) rfl rfl (by kernel_rfl) (by kernel_rfl) (by kernel_rfl) (fun _ _ _ h => h) (Or.inl ⟨by rfl, ?q5_h23⟩) (by assumption) ?q5_r23
                case q5_h23 => (intro w hSw; (try dsimp only at hSw); go_simp; try (with_reducible rfl))
                simp only [List.set_cons_zero, List.set_cons_succ]
                refine takeH 24 42 (v := ?q5_v24) rfl rfl (by kernel_rfl) (by kernel_rfl) (by kernel_rfl) (fun _ _ _ h => h) (Or.inl ⟨by rfl, ?q5_h24⟩) (by assumption) ?q5_r24
                case q5_h24 => (intro w hSw; (try dsimp only at hSw); go_simp; try (with_reducible rfl))
                simp only [List.set_cons_zero, List.set_cons_succ]
                refine takeH 25 43 (v := ?q5_v25) rfl rfl (by kernel_rfl) (by kernel_rfl) (by kernel_rfl) (fun _ _ _ h => h) (Or.inl ⟨by rfl, ?q5_h25⟩) (by assumption) ?q5_r25
                case q5_h25 => (intro w hSw; (try dsimp only at hSw); go_simp; try (with_reducible rfl))
                simp only [List.set_cons_zero, List.set_cons_succ]
                refine takeH 26 44 (v := ?q5_v26) rfl rfl (by kernel_rfl) (by kernel_rfl) (by kernel_rfl) (fun _ _ _ h => h) (Or.inl ⟨by rfl, ?q5_h26⟩) (by assumption) ?q5_r26
                case q5_h26 => (intro w hSw; (try dsimp only at hSw); go_simp; try (with_reducible rfl))
                simp only [List.set_cons_zero, List.set_cons_succ]
                refine takeH 27 45 (v := ?q5_v27) rfl rfl (by kernel_rfl) (by kernel_rfl) (by kernel_rfl) (fun _ _ _ h => h) (Or.inl ⟨by rfl, ?q5_h27⟩) (by assumption) ?q5_r27
                case q5_h27 => (intro w hSw; (try dsimp only at hSw); go_simp; try (with_reducible rfl))
                simp only [List.set_cons_zero, List.set_cons_succ]
                refine takeH 28 46 (v := ?q5_v28) rfl rfl (by kernel_rfl) (by kernel_rfl) (by kernel_rfl) (fun _ _ _ h => h) (Or.inl ⟨by rfl, ?q5_h28⟩) (by assumption) ?q5_r28
                case q5_h28 => (intro w hSw; (try dsimp only at hSw); go_simp; try (with_reducible rfl))
                simp only [List.set_cons_zero, List.set_cons_succ]
                refine takeH 29 47 (v := ?q5_v29) rfl rfl (by kernel_rfl) (by kernel_rfl) (by kernel_rfl) (fun _ _ _ h => h) (Or.inl ⟨by rfl, ?q5_h29⟩) (by assumption) ?q5_r29
                case q5_h29 => (intro w hSw; (try dsimp only at hSw); go_simp; try (with_reducible rfl))
                simp only [List.set_cons_zero, List.set_cons_succ]
                refine takeH 30 48 (v := ?q5_v30) rfl rfl (by kernel_rfl) (by kernel_rfl) (by kernel_rfl) (fun _ _ _ h => h) (Or.inl ⟨by rfl, ?q5_h30⟩) (by assumption) ?q5_r30
                case q5_h30 => (intro w hSw; (try dsimp only at hSw); go_simp; try (with_reducible rfl))
                simp only [List.set_cons_zero, List.set_cons_succ]
                refine takeH 31 49 (v := ?q5_v31) rfl rfl (by kernel_rfl) (by kernel_rfl) (by kernel_rfl) (fun _ _ _ h => h) (Or.inl ⟨by rfl, ?q5_h31⟩) (by assumption) ?q5_r31
                case q5_h31 => (intro w hSw; (try dsimp only at hSw); go_simp; try (with_reducible rfl))
                simp only [List.set_cons_zero, List.set_cons_succ]
                refine takeH 32 50 (v := ?q5_v32) rfl rfl (by kernel_rfl) (by kernel_rfl) (by kernel_rfl) (fun _ _ _ h => h) (Or.inl ⟨by rfl, ?q5_h32⟩) (by assumption) ?q5_r32
                case q5_h32 => (intro w hSw; (try dsimp only at hSw); go_simp; try (with_reducible rfl))
                simp only [List.set_cons_zero, List.set_cons_succ]
                refine takeH 33 51 (v := ?q5_v33) rfl rfl (by kernel_rfl) (by kernel_rfl) (by kernel_rfl) (fun _ _ _ h => h) (Or.inl ⟨by rfl, ?q5_h33⟩) (by assumption) ?q5_r33
                case q5_h33 => (intro w hSw; (try dsimp only at hSw); go_simp; try (with_reducible rfl))
                simp only [List.set_cons_zero, List.set_cons_succ]
                refine takeH 34 52 (v := ?q5_v34) rfl rfl (by kernel_rfl) (by kernel_rfl) (by kernel_rfl) (fun _ _ _ h => h) (Or.inl ⟨by rfl, ?q5_h34⟩) (by assumption) ?q5_r34
                case q5_h34 => (intro w hSw; (try dsimp only at hSw); go_simp; try (with_reducible rfl))
                simp only [List.set_cons_zero, List.set_cons_succ]
                refine wpAnyH_ready (rs := [35]) (by kernel_rfl) (by simp) ?_
                refine AllReadyH.cons rfl (fun K hK => ?_) AllReadyH.nil
                go_simp
                go_wp2_with (go_at_call 82; refine (refAhead_at zA xA zc xc zl xl _ _ HZ.out.ix HE.out.ix HU3.out).mono ?_; rintro e w7 ⟨rfl, hb5⟩; (replace HE := Lib.hid (HE.out.later hb5); replace HZ := Lib.hid (HZ.out.later hb5); clear hb5))
                refine hK.out _ _ ?_ (fun hHeld => ?_)
                · exact ⟨HE.out.S.i1, HE.out.S.c3, HE.out.S.c4, HE.out.S.s0, HE.out.S.s1, HE.out.x0, HE.out.y0, HE.out.y1, HE.out.y2, HE.out.y3, HE.out.y4, HZ.out.x0⟩
                clear hK K
                refine takeH 36 54 (v := ?q5_v36) rfl rfl (by kernel_rfl) (by kernel_rfl) (by kernel_rfl) (fun _ _ _ h => h) (Or.inl ⟨by rfl, ?q5_h36⟩) (by assumption) ?q5_r36
                case q5_h36 => (intro w hSw; (try dsimp only at hSw); go_simp; try (with_reducible rfl))
                simp only [List.set_cons_zero, List.set_cons_succ]
                refine takeH 37 55 (v := ?q5_v37) rfl rfl (by kernel_rfl) (by kernel_rfl) (by kernel_rfl) (fun _ _ _ h => h) (Or.inl ⟨by rfl, ?q5_h37⟩) (by assumption) ?q5_r37
                case q5_h37 => (intro w hSw; (try dsimp only at hSw); go_simp; try (with_reducible rfl))
                simp only [List.set_cons_zero, List.set_cons_succ]
                refine takeH 38 56 (v := ?q5_v38) rfl rfl (by kernel_rfl) (by kernel_rfl) (by kernel_rfl) (fun _ _ _ h => h) (Or.inl ⟨by rfl, ?q5_h38⟩) (by assumption) ?q5_r38
                case q5_h38 => (intro w hSw; (try dsimp only at hSw); go_simp; try (with_reducible rfl))
                simp only [List.set_cons_zero, List.set_cons_succ]
                refine wpAnyH_done (by kernel_rfl) ?_ _
                refine NoPanic.normal ?_
                clear s1 s2 s3 s4 s5 HZ HU3
                go_wp2_with fail
                go_loopw [6] (fun kv wr => ∃ (k2 : Nat), k2 ≤ i ∧ kv = .int .i64 k2 ∧ Hid (((cs.map Ck.l).take k2).all (fun d => decide (cmpC d xl = 2)) = true) ∧ Hid (SibE w (some ⟨b, off, none⟩) c b off ak aA ac al (some ⟨b1, off1, none⟩) cc cs.length (some ⟨b2, off2, none⟩) vc vs.length b1 (off1 + i) b2 (off2 + i * 5) ⟨xA, xc, xl⟩ (.mk yn ym ysA ysc yss ycA ycc ycs yvA yvc yvs) wr)) (fun kv _ => i - (intOf kv).toNat)
                case atStart => exact ⟨0, Nat.zero_le _, rfl, by simp [Hid], HE⟩
                case round =>
                  clear HE
                  rename_i wq
                  obtain ⟨k2, hk2, rfl, hall2, HE⟩ := hrel
                  by_cases hlt2 : k2 < i
                  · obtain ⟨z2, hz2⟩ : ∃ z, cs[k2]? = some z := ⟨_, List.getElem?_eq_getElem (by omega)⟩
                    obtain ⟨b3, off3, he3, hb3, hcz⟩ := clock_at (HP.out.cl.below HE.out.S.bel) hz2
                    obtain ⟨rfl, rfl⟩ : b1 = b3 ∧ off1 = off3 := by cases he3; exact ⟨rfl, rfl⟩
                    have HIZ := Lib.hid ((HP.out.ck z2 (List.mem_of_getElem? hz2)).later HE.out.S.bel)
                    have HZ2 := Lib.hid hz2
                    clear hz2 he3
                    obtain ⟨zA2, zc2, zl2⟩ := z2
                    simp only [Ck.v] at hcz
                    dsimp only at HIZ
                    have e3 := HE.out.S.c3
                    have e0 := HE.out.x0
                    dsimp only at e0
                    have hk2i : (k2 : Int) < (cs.length : Int) := by omega
                    obtain ⟨u4, hu4⟩ : ∃ u, cmpC zl2 xl = u := ⟨_, rfl⟩
                    have HU4 := Lib.hid hu4
                    clear hu4
                    have hik : (k2 : Int) < (i : Int) := by omega
                    go_wp2_with fail
                    go_still_tail 10, (by kernel_rfl)
                    change wpList _ _ _ _ _ wr.drew
                    go_wp2_with fail
                    refine (refCmp_at zA2 xA zc2 xc zl2 xl u4 _ (HIZ.out.later (drewB wr)) (HE.out.ix.later (drewB wr)) HU4.out).mono ?_
                    rintro e w8 ⟨rfl, hb8⟩
                    replace HE := Lib.hid (HE.out.later ((drewB wr).trans hb8))
                    clear hb8 hcz e3 e0
                    by_cases h2 : u4 = 2
                    · subst h2
                      go_wp2_with fail
                      go_roundw
                      case rel => exact ⟨k2 + 1, by omega, by go_num, all_succ hall2.out (map_at (f := Ck.l) HZ2.out) (decide_eq_true HU4.out), HE⟩
                      case measure => simp [intOf]; omega
                    · have d2 : (u4 == 2) = false := by simp [h2]
                      have HF : Hid (R = false) := by
                        show R = false
                        have ha : ((cs.map Ck.l).take i).all (fun d => decide (cmpC d xl = 2)) = false := all_fail (k := k2) (x := zl2) (by rw [List.getElem?_take_of_lt hlt2]; exact map_at (f := Ck.l) HZ2.out) (decide_eq_false (by rw [HU4.out]; exact h2))
                        rw [← HG.out, ha]
                        rfl
                      clear h2
                      go_wp2_with fail
                      go_ret
                      exact ⟨ret_bool HF.out.symm, HE.out.S.bel⟩
                  · have hke : k2 = i := by omega
                    subst hke
                    have HN : Hid (sibGo p ((cs.map Ck.l).take (k2 + 1)) ((cs.map Ck.l).drop (k2 + 1)) ((vs.map Vl.er).drop (k2 + 1)) = R) := by
                      have := HG.out
                      rw [hall2.out] at this
                      exact this
                    go_wp2_with fail
                    go_roundw
                    case rel => exact ⟨k2 + 1, by omega, by go_num, HN, HE.out.S⟩
                    case measure => simp [intOf]; omega
      · have hd : (cs.map Ck.l).drop i = [] := List.drop_eq_nil_of_le (by rw [List.length_map]; omega)
        have HEE := Lib.hid ((sibGo_end (p := p) (pre := (cs.map Ck.l).take i) (vs := (vs.map Vl.er).drop i) hd).symm.trans h0.out)
        clear hd h0
        go_wp2_with fail
        go_ret
        exact ⟨ret_bool HEE.out, hbw⟩
  · rw [decide_eq_false c40, Bool.false_and]
    have d40 : 40 < cs.length := by omega
    go_enter Tryz.func53, Tryz.ntmps53
    go_wp2_with fail
    go_ret
    exact ⟨rfl, HC.out.bel⟩
end Go.Proofs.YtleejffjnknohaaGreat.V4
