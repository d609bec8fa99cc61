/- What value.Same, value.Is, value.None do. No condition but that what is handed in lies in memory. What value.Size does. No condition but that the value lies in memory. What value.bottom and value.Bottom do. No condition but that the schema lies in memory. -/
import Derived.Test.YtcpfjjimbnmaoaaMt16
namespace Go.Proofs.Ytcpfjjimbnmaoaa.V4
open Go.RowKit Go.Shelf
open C3 (Tk isC belAl)
open S2 (Sc isT allocB)

theorem inK_pre {w : World} : ∀ (a b : Vl), InK w (a, b) → ∀ x ∈ (treeC a b).pre, InK w x := fun a b h x hx => by
  have hg := goodK (D := w.heap.size) a b (h.1.bar (Nat.le_refl _)) (h.2.bar (Nat.le_refl _))
  have := hg.all x hx
  exact ⟨this.1.inn, this.2.inn⟩

theorem alike_safe {x : Vl × Vl} (h : alikeK x = true) : SafeK x := by
  unfold alikeK at h
  simp only [Bool.and_eq_true, decide_eq_true_eq] at h
  unfold SafeK
  omega

theorem all_treeC (p : Vl × Vl → Bool) (a b : Vl) : (treeC a b).pre.all p = (p (a, b) && (List.zipWith (fun x y => (treeC x y).pre.all p) a.vs b.vs).all id) := by
  rw [treeC_mk, Nd.pre, List.all_cons]
  congr 1
  have h : ∀ (l : List (Nd (Vl × Vl))), (Nd.preL l).all p = l.all fun t => t.pre.all p := fun l => by
    induction l with
    | nil => rfl
    | cons t l ih => rw [Nd.preL, List.all_append, ih, List.all_cons]
  rw [h]
  have h2 : ∀ (l l' : List Vl), (List.zipWith treeC l l').all (fun t => t.pre.all p) = (List.zipWith (fun x y => (treeC x y).pre.all p) l l').all id := fun l => by
    induction l with
    | nil => intro l'; simp
    | cons x l ih => intro l'; cases l' with
      | nil => simp
      | cons y l' => simp only [List.zipWith_cons_cons, List.all_cons, ih l', id]
  exact h2 _ _

theorem alike_mk (n m : Int) (sA : Option Addr) (sc : Nat) (ss : List Str) (cA : Option Addr) (cc : Nat) (cs : List Ck) (vA : Option Addr) (vc : Nat) (vs : List Vl) (n' m' : Int) (sA' : Option Addr) (sc' : Nat) (ss' : List Str) (cA' : Option Addr) (cc' : Nat) (cs' : List Ck) (vA' : Option Addr) (vc' : Nat) (vs' : List Vl) :
    alikeK (Vl.mk n m sA sc ss cA cc cs vA vc vs, Vl.mk n' m' sA' sc' ss' cA' cc' cs' vA' vc' vs') = (decide (n = n') && (decide (m = m') && (decide (ss = ss') && (decide (cs.map Ck.l = cs'.map Ck.l) && decide (vs.length = vs'.length))))) := rfl

theorem same_all : ∀ (a b : Vl), (treeC a b).pre.all alikeK = decide (a.er = b.er) := by
  intro a
  induction a using Vl.ind with
  | h n m sA sc ss cA cc cs vA vc vs ih =>
    rintro ⟨n', m', sA', sc', ss', cA', cc', cs', vA', vc', vs'⟩
    rw [all_treeC, er_mk, er_mk]
    have hz : ∀ (l l' : List Vl), (∀ x ∈ l, ∀ b, (treeC x b).pre.all alikeK = decide (x.er = b.er)) → l.length = l'.length → (List.zipWith (fun x y => (treeC x y).pre.all alikeK) l l').all id = decide (l.map Vl.er = l'.map Vl.er) := fun l => by
      induction l with
      | nil => intro l' _ hl; cases l' with
        | nil => rfl
        | cons y l' => simp at hl
      | cons x l ihl => intro l' hx hl; cases l' with
        | nil => simp at hl
        | cons y l' =>
          simp only [List.zipWith_cons_cons, List.all_cons, id, List.map_cons]
          rw [hx x (by simp) y]
          have := ihl l' (fun z hz => hx z (List.mem_cons_of_mem _ hz)) (by simpa using hl)
          rw [show (List.zipWith (fun x y => (treeC x y).pre.all alikeK) l l').all id = decide (l.map Vl.er = l'.map Vl.er) from this, ← Bool.decide_and]
          refine decide_eq_decide.2 ?_
          rw [List.cons.injEq]
    rw [alike_mk]
    simp only [Vl.vs]
    by_cases hl : vs.length = vs'.length
    · rw [hz vs vs' ih hl, ← Bool.decide_and, ← Bool.decide_and, ← Bool.decide_and, ← Bool.decide_and, ← Bool.decide_and]
      refine decide_eq_decide.2 ?_
      rw [mk_inj]
      constructor
      · rintro ⟨⟨h1, h2, h3, h4, _⟩, h5⟩; exact ⟨h1, h2, h3, h4, h5⟩
      · rintro ⟨h1, h2, h3, h4, h5⟩; exact ⟨⟨h1, h2, h3, h4, hl⟩, h5⟩
    · rw [decide_eq_false hl]
      simp only [Bool.and_false, Bool.false_and]
      refine (decide_eq_false fun h => hl ?_).symm
      rw [mk_inj] at h
      have := congrArg List.length h.2.2.2.2
      simpa using this

set_option maxRecDepth 100000 in
set_option maxHeartbeats 1000000 in
theorem Same_any (a b : Vl) (w : World) (ha : a.In w) (hb : b.In w) : Calls Try.prog 16 #[a.val, b.val] w (RetV w (.bool (decide (a.er = b.er)))) := by
  obtain ⟨V, hV⟩ : ∃ V, ((w.alloc (.cells #[.int .u64 a.n, .int .u64 a.m, a.s1, a.c1, a.v1] 30)).alloc (.cells #[.int .u64 b.n, .int .u64 b.m, b.s1, b.c1, b.v1] 30)) = V := ⟨_, rfl⟩
  have hB0 : Below w.heap.size w V := by rw [← hV]; exact belAl (belAl (Below.refl _ _))
  have hcS : ∀ i u, (#[.int .u64 a.n, .int .u64 a.m, a.s1, a.c1, a.v1] : Array Value)[i]? = some u → V.cell? ⟨w.heap.size, i, none⟩ = some u := fun i u h => by
    rw [← hV]
    exact ((belAl1 (Below.refl (w.heap.size + 1) (w.alloc (.cells #[.int .u64 a.n, .int .u64 a.m, a.s1, a.c1, a.v1] 30))) (by simp)).cell (p := ⟨w.heap.size, i, none⟩) (by simp)).trans (alloc_cells i u h)
  have hcV : ∀ i u, (#[.int .u64 b.n, .int .u64 b.m, b.s1, b.c1, b.v1] : Array Value)[i]? = some u → V.cell? ⟨w.heap.size + 1, i, none⟩ = some u := fun i u h => by
    rw [← hV]
    exact alloc2_cell i u h
  have hin : InK V (a, b) := ⟨ha.later hB0, hb.later hB0⟩
  have hn := nested_K (treeC a b) V (fun D hD => goodK a b (hin.1.bar hD) (hin.2.bar hD))
  rw [treeC_lab] at hn
  have HN := Lib.hid hn
  have HE : Hid (∀ (b1 b2 : Nat) (w' : World), Below V.heap.size V w' → (∀ D w2, Below w'.heap.size w' w2 → V.heap.size ≤ D → D < w2.heap.size → SeqO Try.prog 52 #[.pointer (some ⟨b1, 0, none⟩), .pointer (some ⟨b2, 0, none⟩)] encK D SafeK (treeC a b).pre w2) →
      Calls Try.prog 32 #[.func (.func 52) #[] #[.pointer (some ⟨b1, 0, none⟩), .pointer (some ⟨b2, 0, none⟩)], .func (.func 35) #[] #[]] w' (RetV w' (.bool (decide (a.er = b.er))))) := fun b1 b2 w' hbw hs => by
    rw [← same_all]
    exact every_alike alikeK (treeC a b).pre (fun y _ W hW => alike_any y W hW) SafeK (fun y _ h => alike_safe h) _ _ (enters_of Try.func52 (by kernel_rfl) rfl) w'
      (fun D w2 hb2 hD hD2 => hs D w2 hb2 (Nat.le_trans hbw.size hD) hD2) (fun y hy => inK_pre a b (hin.later hbw) y hy)
  obtain ⟨R, hR⟩ : ∃ R, decide (a.er = b.er) = R := ⟨_, rfl⟩
  rw [hR] at HE ⊢
  clear hin ha hb hn hR
  have a0 := hcS 0 _ rfl
  have a1 := hcS 1 _ rfl
  have a2 := hcS 2 _ rfl
  have a3 := hcS 3 _ rfl
  have a4 := hcS 4 _ rfl
  have g0 := hcV 0 _ rfl
  have g1 := hcV 1 _ rfl
  have g2 := hcV 2 _ rfl
  have g3 := hcV 3 _ rfl
  have g4 := hcV 4 _ rfl
  clear hcS hcV
  obtain ⟨yn, ym, ysA, ysc, yss, ycA, ycc, ycs, yvA, yvc, yvs⟩ := a
  obtain ⟨n, m, sA, sc, ss, cA, cc, cs, vA, vc, vs⟩ := b
  simp only [val_mk, valK, cellsK, Vl.n, Vl.m, Vl.s1, Vl.c1, Vl.v1] at a0 a1 a2 a3 a4 g0 g1 g2 g3 g4 HN hV ⊢
  go_enter Try.func16, Try.ntmps16
  go_wp2_with fail
  clear hV
  refine HN.out.mono ?_
  clear HN
  rintro e w4 ⟨b1, b2, rfl, hb4, hseq⟩
  have HE4 := Lib.hid (HE.out b1 b2 w4 hb4 hseq)
  clear HE hseq
  go_wp2_with fail
  refine HE4.out.mono ?_
  rintro e w5 ⟨rfl, hb5⟩
  go_wp2_with fail
  go_ret
  exact ⟨rfl, hB0.trans ((hb4.trans (hb5.mono hb4.size)).mono hB0.size)⟩

theorem Is_any (s : Sc) (v : Vl) (w : World) (hs : s.In w.heap.size w) (hv : v.In w) : Calls Try.prog 9 #[s.val, v.val] w (RetV w (.bool (isT 16 s.er && isV s.er v.er))) := by
  have := Is_walk s v w hs hv
  cases h : isT 16 s.er with
  | false => rw [h] at this; exact this
  | true => rw [h, rightAll_isV v s 16 (Nat.le_refl _) h] at this; exact this

theorem None_any (s : Sc) (v : Vl) (w : World) (hs : s.In w.heap.size w) (hv : v.In w) : Calls Try.prog 14 #[s.val, v.val] w (RetV w (.bool (decide (v.er = botT s.er)))) := by
  have := None_walk s v w hs hv
  cases h : isT 16 s.er with
  | false =>
    rw [h, hasN_none] at this
    have e : decide (v.er = botT s.er) = decide (v.n = 0 ∧ v.m = 0 ∧ v.ss.length = 0 ∧ v.cs.length = 0 ∧ v.vs.length = 0) := by
      refine decide_eq_decide.2 ?_
      rw [botT_zero (fun hh => by rw [h] at hh; exact absurd hh.1 (by simp)), er_eta, Va.zero, mk_inj]
      simp
    rw [e]
    exact this
  | true => rw [h, noneT_bot v s 16 (Nat.le_refl _) h] at this; exact this
end Go.Proofs.Ytcpfjjimbnmaoaa.V4

namespace Go.Proofs.Ytcpfjjimbnmaoaa.V4
open Go.RowKit Go.Shelf
open C3 (Tk isC belAl)
open S2 (Sc isT allocB)

attribute [local go_sem] Oper.semAt_some

theorem size_all : ∀ (v : Vl), (treeV v).pre.length = v.er.size := by
  intro v
  induction v using Vl.ind with
  | h n m sA sc ss cA cc cs vA vc vs ih =>
    rw [treeV_mk, Nd.pre, er_mk, size_mk, List.length_cons]
    have h : ∀ l : List Vl, (∀ x ∈ l, (treeV x).pre.length = x.er.size) → (Nd.preL (l.map treeV)).length = Va.sizeL (l.map Vl.er) := fun l => by
      induction l with
      | nil => intro _; rfl
      | cons x l ihl =>
        intro hx
        rw [List.map_cons, Nd.preL, List.length_append, List.map_cons, Va.sizeL, hx x (by simp), ihl fun y hy => hx y (List.mem_cons_of_mem _ hy)]
    have := h vs ih
    simp only [Vl.vs]
    omega

theorem KN.set {D B : Nat} {W : World} (hD : D < B) (v : Value) : KN D B W (W.setCell ⟨D, 0, none⟩ v) :=
  ⟨by simp, fun b o h1 h2 => (Below.heap_setCell _ _ _ _ (by rcases h2 with ⟨_, h⟩ | h <;> simp only [ne_eq] <;> omega)).trans h1⟩
theorem wrap64_i64 (k : Int) : wrap64 k = IntKind.i64.wrap k := by unfold wrap64; rw [IntKind.wrap_i64]

theorem wrap_succ (k : Nat) : wrap64 (IntKind.i64.wrap (k : Int) + 1) = IntKind.i64.wrap ((k + 1 : Nat) : Int) := by
  have h1 : IntKind.i64.wrap 1 = 1 := IntWalk.i64_in _ (by omega)
  have := wrap_add64 (k : Int) 1
  rw [h1] at this
  rw [this]
  simp

set_option maxRecDepth 100000 in
set_option maxHeartbeats 1000000 in
theorem Size_any (x : Vl) (w : World) (hx : x.In w) : Calls Try.prog 17 #[x.val] w (RetV w (.int .i64 (IntKind.i64.wrap (x.er.size : Nat)))) := by
  obtain ⟨V, hV⟩ : ∃ V, ((w.alloc (.cells #[.int .u64 x.n, .int .u64 x.m, x.s1, x.c1, x.v1] 30)).alloc (.cells #[.int .i64 0] 3)) = V := ⟨_, rfl⟩
  have hB0 : Below w.heap.size w V := by rw [← hV]; exact belAl (belAl (Below.refl _ _))
  have hsz : V.heap.size = w.heap.size + 2 := by rw [← hV]; simp
  have hcS : ∀ i u, (#[.int .u64 x.n, .int .u64 x.m, x.s1, x.c1, x.v1] : Array Value)[i]? = some u → V.cell? ⟨w.heap.size, i, none⟩ = some u := fun i u h => by
    rw [← hV]
    exact ((belAl1 (Below.refl (w.heap.size + 1) (w.alloc (.cells #[.int .u64 x.n, .int .u64 x.m, x.s1, x.c1, x.v1] 30))) (by simp)).cell (p := ⟨w.heap.size, i, none⟩) (by simp)).trans (alloc_cells i u h)
  have bR : Boxed V (w.heap.size + 1) 3 (.int .i64 0) := by
    have := Boxed.new (w.alloc (.cells #[.int .u64 x.n, .int .u64 x.m, x.s1, x.c1, x.v1] 30)) 3 (.int .i64 0)
    rw [World.size_alloc, hV] at this
    exact this
  have hm : x.Inp (Bar (w.heap.size + 1)) V := (Vl.Inp.keep hx fun b hlt => hB0.block b hlt).mono fun b hb => by unfold Bar; omega
  have hn := nested_V (fun D => D = w.heap.size + 1) (treeV x) V (fun D hD => by subst hD; exact goodV x hm)
  rw [show (treeV x).lab = x by rw [treeV_mk]; rfl] at hn
  have HN := Lib.hid hn
  rw [← size_all]
  obtain ⟨zs, hzs⟩ : ∃ zs, (treeV x).pre = zs := ⟨_, rfl⟩
  rw [hzs]
  have a0 := hcS 0 _ rfl
  have a1 := hcS 1 _ rfl
  have a2 := hcS 2 _ rfl
  have a3 := hcS 3 _ rfl
  have a4 := hcS 4 _ rfl
  clear hcS hm hx hn
  obtain ⟨n, m, sA, sc, ss, cA, cc, cs, vA, vc, vs⟩ := x
  simp only [val_mk, Vl.n, Vl.m, Vl.s1, Vl.c1, Vl.v1] at a0 a1 a2 a3 a4 HN hV ⊢
  refine (callsIn_wide (n := 6)).1 (callsIn_of_wp_marks Try.func17 rfl trivial ?_ rfl)
  simp only [Try.ntmps17, List.size_toArray, List.length_cons, List.length_nil, Nat.reduceAdd, Nat.reduceSub, Array.replicate_succ, Array.replicate_zero, List.push_toArray, List.append_toArray, List.nil_append, List.cons_append]
  have HV := Lib.hid hV
  clear hV
  gi_wp2_with fail
  rw [HV.out]
  refine ⟨trivial, (callsIn_wide.2 HN.out).mono ?_⟩
  clear HN
  rintro e W4 ⟨b1, b2, rfl, hb4, hseq⟩
  have hs4 := hb4.size
  have hsq := hseq (w.heap.size + 1) W4 (Below.refl _ _) rfl (by omega)
  rw [hzs] at hsq
  have HSQ := Lib.hid hsq
  have hB4 : Below w.heap.size w W4 := hB0.trans (hb4.mono hB0.size)
  have bR4 : Boxed W4 (w.heap.size + 1) 3 (.int .i64 0) := (hb4.block _ (by omega)).trans bR
  clear hseq hsq bR hb4 hB0 a0 a1 a2 a3 a4 hzs
  gi_wp2_with fail
  refine range_own rfl (enters_of Try.func58 (by kernel_rfl) rfl) HSQ.out (fun _ => rfl)
    (fun k X => Boxed X (w.heap.size + 1) 3 (.int .i64 (IntKind.i64.wrap (k : Nat))) ∧ Below w.heap.size w X)
    (fun _ _ _ => False)
    (fun k X Y ⟨h1, h2⟩ hb => ⟨(hb.block _ (by omega)).trans h1, h2.trans (hb.mono (by omega))⟩)
    (fun c k X Y h _ => h)
    ⟨bR4, hB4⟩
    (fun y a' _ => a' = { tmps := #[.agg #[.int .u64 n, .int .u64 m, .slice sA ss.length sc, .slice cA cs.length cc, .slice vA vs.length vc], .pointer (some ⟨w.heap.size, 0, none⟩), .int .i64 0, .pointer (some ⟨w.heap.size + 1, 0, none⟩), .agg #[.int .u64 n, .int .u64 m, .slice sA ss.length sc, .slice cA cs.length cc, .slice vA vs.length vc],
        .func (.func 58) #[] #[.pointer (some ⟨b1, 0, none⟩), .pointer (some ⟨b2, 0, none⟩)], y.val, undef, undef, undef], defers := [] })
    ?ax ?assign ?body ?done ?stop
  case ax =>
    rintro y a' _ X Y row h1 hg hr
    exact h1
  case assign =>
    intro l2 k y X K _ _ hK
    unfold encV
    gi_wp2
    exact hK _ _ (Below.refl _ _) (by simp)
  case body =>
    rintro l2 k y a' X hXs hx ⟨h1, h2⟩ rfl
    have hcl := h1.cell
    have hcf := h1.frozen
    have hw := wrap_succ k
    obtain ⟨z, hz⟩ : ∃ z, IntKind.i64.wrap ((k + 1 : Nat) : Int) = z := ⟨_, rfl⟩
    rw [hz] at hw
    have HZ := Lib.hid hz
    clear hz
    obtain ⟨y, hy⟩ : ∃ y, IntKind.i64.wrap (k : Int) = y := ⟨_, rfl⟩
    rw [hy] at hcl hw
    have HW := Lib.hid hw
    clear hy hw
    gi_wp2_with fail
    rw [HW.out]
    have hb := h1.set (.int .i64 z)
    refine ⟨KN.set (by omega) _, ⟨?_, h2.setCell (by simp) _⟩, trivial⟩
    rw [HZ.out]
    exact hb
  case done =>
    rintro E X hE ⟨hR, hB⟩ hK
    have hcl := hR.cell
    gi_wp2
    refine ⟨by simp, .inl ⟨_, _, rfl, run_takeDeferred hK, ?_⟩⟩
    refine ⟨_, results_tmp rfl _ _ _, ?_⟩
    exact ⟨ret_int (wrap64_i64 _), hB.trans ⟨rfl, rfl, rfl, by simp, fun q hq => World.putObj_heap_other (by omega)⟩⟩
  case stop =>
    rintro E c k X hE hk h hK
    exact h.elim
end Go.Proofs.Ytcpfjjimbnmaoaa.V4

namespace Go.Proofs.Ytcpfjjimbnmaoaa.V4
open Go.RowKit Go.Shelf
open C3 (Tk isC belAl drewB)
open S2 (Sc isT allocB)

set_option maxRecDepth 100000 in
set_option maxHeartbeats 2000000 in
theorem bottom_any : ∀ (s : Sc) (n : Nat), n ≤ 16 → isT n s.er = true → ∀ (w : World), s.In w.heap.size w → Calls Try.prog 29 #[s.val] w (RetWN w (botT s.er)) := by
  intro s
  induction s using S2.Sc.ind with
  | h k A c l ih =>
    intro n hn hp w hin
    obtain ⟨w1, hw1⟩ : ∃ w1, ((w.alloc (.cells #[.int .i64 k, .slice A l.length c] 24)).alloc (.cells #[.int .u64 0, .int .u64 0, .slice none 0 0, .slice none 0 0, .slice none 0 0] 30)) = w1 := ⟨_, rfl⟩
    have HW1 := Lib.hid hw1
    have HB1 : Hid (Below w.heap.size w w1) := by rw [← hw1]; exact belAl (allocB _ _)
    have HI0 := Lib.hid hin
    have HI1 := Lib.hid (hin.later HB1.out)
    have IH := Lib.hid ih
    have HP := Lib.hid hp
    clear hin ih hp hw1
    simp only [S2.val_mk]
    have a0 : w1.cell? ⟨w.heap.size, 0, none⟩ = some (.int .i64 k) := by rw [← HW1.out]; go_simp
    have a1 : w1.cell? ⟨w.heap.size, 1, none⟩ = some (.slice A l.length c) := by rw [← HW1.out]; go_simp
    have b0 : w1.cell? ⟨w.heap.size + 1, 0, none⟩ = some (.int .u64 0) := by rw [← HW1.out]; go_simp
    have b1 : w1.cell? ⟨w.heap.size + 1, 1, none⟩ = some (.int .u64 0) := by rw [← HW1.out]; go_simp
    have b2 : w1.cell? ⟨w.heap.size + 1, 2, none⟩ = some (.slice none 0 0) := by rw [← HW1.out]; go_simp
    have b3 : w1.cell? ⟨w.heap.size + 1, 3, none⟩ = some (.slice none 0 0) := by rw [← HW1.out]; go_simp
    have b4 : w1.cell? ⟨w.heap.size + 1, 4, none⟩ = some (.slice none 0 0) := by rw [← HW1.out]; go_simp
    have f0 : w1.frozen? ⟨w.heap.size + 1, 0, none⟩ = false := by rw [← HW1.out]; go_simp
    have f1 : w1.frozen? ⟨w.heap.size + 1, 1, none⟩ = false := by rw [← HW1.out]; go_simp
    have f2 : w1.frozen? ⟨w.heap.size + 1, 2, none⟩ = false := by rw [← HW1.out]; go_simp
    have f3 : w1.frozen? ⟨w.heap.size + 1, 3, none⟩ = false := by rw [← HW1.out]; go_simp
    have f4 : w1.frozen? ⟨w.heap.size + 1, 4, none⟩ = false := by rw [← HW1.out]; go_simp
    have hsz : w.heap.size + 1 < w1.heap.size := by rw [← HW1.out]; simp
    by_cases hc : k = 5
    · subst hc
      have hl2 : l.length = 2 := by
        have := isT_len (n := n) (k := 5) (l := l.map Sc.er) (by rw [← S2.er_mk 5 A c]; exact HP.out)
        simp [S2.arI] at this
        omega
      obtain ⟨x, y, rfl⟩ := two_of_len hl2
      obtain ⟨-, -, -, hall⟩ := HI1.out.out
      obtain ⟨hl0, -, -, -⟩ := HI0.out.out
      have hll : S2.LiesS w.heap.size w1 A [x, y] := hl0.below HB1.out
      obtain ⟨b, off, rfl, hb, hcl⟩ := hll.get (k := 0) (by simp)
      have hbn : b ≠ w.heap.size + 1 := by omega
      have hbn' : w.heap.size + 1 ≠ b := by omega
      replace hb : b < w1.heap.size := by omega
      obtain ⟨c0, c1⟩ := hcl 0 x rfl
      obtain ⟨c2, c3⟩ := hcl 1 y rfl
      have HX := Lib.hid (hall x (by simp))
      have HY := Lib.hid (hall y (by simp))
      obtain ⟨n', rfl⟩ : ∃ n', n = n' + 1 := by
        cases n with
        | zero => have := HP.out; simp [isT] at this
        | succ n' => exact ⟨n', rfl⟩
      have hsub := HP.out
      rw [S2.er_mk] at hsub
      have IHX := Lib.hid (IH.out x (by simp) n' (by omega) (isT_ins hsub x.er (by simp)))
      have IHY := Lib.hid (IH.out y (by simp) n' (by omega) (isT_ins hsub y.er (by simp)))
      have HT : Hid (botT (Sc.mk 5 (some ⟨b, off, none⟩) c [x, y]).er = .mk 0 0 [] [] [botT x.er, botT y.er]) := by
        show botT _ = _
        have := isT_le HP.out hn
        rw [S2.er_mk] at this ⊢
        exact botT_pair this
      rw [HT.out]
      clear hll hl0 hall hcl IH hl2 HP HI0 HI1 hsub
      obtain ⟨xk, xA, xc, xl⟩ := x
      obtain ⟨yk, yA, yc, yl⟩ := y
      simp only [S2.Sc.v1, S2.Sc.k, Nat.zero_mul, Nat.add_zero, Nat.one_mul] at c0 c1 c2 c3
      simp only [S2.val_mk] at IHX IHY
      replace HX := Lib.hid (HX.out.later (drewB w1))
      replace HY := Lib.hid (HY.out.later (drewB w1))
      replace HB1 : Hid (Below w.heap.size w w1.drew) := HB1.out.drew
      simp only [List.length_cons, List.length_nil, Nat.zero_add, Nat.reduceAdd] at a1
      have hs0 : w.heap.size < w1.heap.size := by omega
      have hsn := Nat.ne_of_lt hsz
      go_enter Try.func29, Try.ntmps29
      go_wp2_with fail
      simp only [List.length_cons, List.length_nil, Nat.zero_add, Nat.reduceAdd] at HW1
      rw [HW1.out]
      clear HW1
      go_region_held3 (fun w' => w'.cell? ⟨w.heap.size, 1, none⟩ = some (.slice (some ⟨b, off, none⟩) 2 c) ∧ w'.cell? ⟨b, off, none⟩ = some (.int .i64 xk) ∧ w'.cell? ⟨b, off + 1, none⟩ = some (.slice xA xl.length xc) ∧ w'.cell? ⟨b, off + 2, none⟩ = some (.int .i64 yk) ∧ w'.cell? ⟨b, off + 2 + 1, none⟩ = some (.slice yA yl.length yc))
        (first
          | (with_reducible exact ⟨a1, c0, c1, c2, c3⟩)
          | (refine ⟨?_, ?_, ?_, ?_, ?_⟩ <;> go_simp))
        (first
          | (go_at_call 29; refine (IHX.out _ HX.out).mono ?_; rintro e w2 ⟨⟨pn, pm, psA, psc, pss, pcA, pcc, pcs, pvA, pvc, pvs⟩, rfl, hpe, hpi, hb2⟩; (simp only [val_mk]; have HPE := Lib.hid hpe; have HPI : Hid ((Vl.mk pn pm psA psc pss pcA pcc pcs pvA pvc pvs).Inp (fun b => w.heap.size + 2 ≤ b ∧ b < w2.heap.size) w2) := hpi.mono (fun b hP => ⟨Nat.le_trans hsz hP.1, hP.2⟩); replace HY := Lib.hid (HY.out.later hb2); clear hpe hpi HX IHX; replace a1 := (hb2.cell (p := ⟨w.heap.size, 1, none⟩) hs0).trans a1; replace c0 := (hb2.cell (p := ⟨b, off, none⟩) hb).trans c0; replace c1 := (hb2.cell (p := ⟨b, off + 1, none⟩) hb).trans c1; replace c2 := (hb2.cell (p := ⟨b, off + 2, none⟩) hb).trans c2; replace c3 := (hb2.cell (p := ⟨b, off + 2 + 1, none⟩) hb).trans c3; replace b0 := (hb2.cell (p := ⟨w.heap.size + 1, 0, none⟩) hsz).trans b0; replace b1 := (hb2.cell (p := ⟨w.heap.size + 1, 1, none⟩) hsz).trans b1; replace b2 := (hb2.cell (p := ⟨w.heap.size + 1, 2, none⟩) hsz).trans b2; replace b3 := (hb2.cell (p := ⟨w.heap.size + 1, 3, none⟩) hsz).trans b3; replace b4 := (hb2.cell (p := ⟨w.heap.size + 1, 4, none⟩) hsz).trans b4; replace f0 := (hb2.frozen (p := ⟨w.heap.size + 1, 0, none⟩) hsz).trans f0; replace f1 := (hb2.frozen (p := ⟨w.heap.size + 1, 1, none⟩) hsz).trans f1; replace f2 := (hb2.frozen (p := ⟨w.heap.size + 1, 2, none⟩) hsz).trans f2; replace f3 := (hb2.frozen (p := ⟨w.heap.size + 1, 3, none⟩) hsz).trans f3; replace f4 := (hb2.frozen (p := ⟨w.heap.size + 1, 4, none⟩) hsz).trans f4; replace hb : b < w2.heap.size := Nat.lt_of_lt_of_le hb hb2.size; replace hs0 : w.heap.size < w2.heap.size := Nat.lt_of_lt_of_le hs0 hb2.size; replace hsz : w.heap.size + 1 < w2.heap.size := Nat.lt_of_lt_of_le hsz hb2.size; replace hsn := Nat.ne_of_lt hsz; replace HB1 : Hid (Below w.heap.size w w2) := HB1.out.trans (hb2.mono HB1.out.size); clear hb2))
          | (go_at_call 29; refine (IHY.out _ HY.out).mono ?_; rintro e w3 ⟨⟨qn, qm, qsA, qsc, qss, qcA, qcc, qcs, qvA, qvc, qvs⟩, rfl, hqe, hqi, hb3⟩; (simp only [val_mk]; have HQE := Lib.hid hqe; have HQI : Hid ((Vl.mk qn qm qsA qsc qss qcA qcc qcs qvA qvc qvs).Inp (fun b => w.heap.size + 2 ≤ b ∧ b < w3.heap.size) w3) := hqi.mono (fun b hP => ⟨Nat.le_trans hsz hP.1, hP.2⟩); replace HPI : Hid ((Vl.mk pn pm psA psc pss pcA pcc pcs pvA pvc pvs).Inp (fun b => w.heap.size + 2 ≤ b ∧ b < w3.heap.size) w3) := (HPI.out.keep fun b hP => hb3.block b hP.2).mono (fun b hP => ⟨hP.1, Nat.lt_of_lt_of_le hP.2 hb3.size⟩); clear hqe hqi; replace a1 := (hb3.cell (p := ⟨w.heap.size, 1, none⟩) hs0).trans a1; replace c0 := (hb3.cell (p := ⟨b, off, none⟩) hb).trans c0; replace c1 := (hb3.cell (p := ⟨b, off + 1, none⟩) hb).trans c1; replace c2 := (hb3.cell (p := ⟨b, off + 2, none⟩) hb).trans c2; replace c3 := (hb3.cell (p := ⟨b, off + 2 + 1, none⟩) hb).trans c3; replace b0 := (hb3.cell (p := ⟨w.heap.size + 1, 0, none⟩) hsz).trans b0; replace b1 := (hb3.cell (p := ⟨w.heap.size + 1, 1, none⟩) hsz).trans b1; replace b2 := (hb3.cell (p := ⟨w.heap.size + 1, 2, none⟩) hsz).trans b2; replace b3 := (hb3.cell (p := ⟨w.heap.size + 1, 3, none⟩) hsz).trans b3; replace b4 := (hb3.cell (p := ⟨w.heap.size + 1, 4, none⟩) hsz).trans b4; replace f0 := (hb3.frozen (p := ⟨w.heap.size + 1, 0, none⟩) hsz).trans f0; replace f1 := (hb3.frozen (p := ⟨w.heap.size + 1, 1, none⟩) hsz).trans f1; replace f2 := (hb3.frozen (p := ⟨w.heap.size + 1, 2, none⟩) hsz).trans f2; replace f3 := (hb3.frozen (p := ⟨w.heap.size + 1, 3, none⟩) hsz).trans f3; replace f4 := (hb3.frozen (p := ⟨w.heap.size + 1, 4, none⟩) hsz).trans f4; replace hb : b < w3.heap.size := Nat.lt_of_lt_of_le hb hb3.size; replace hs0 : w.heap.size < w3.heap.size := Nat.lt_of_lt_of_le hs0 hb3.size; replace hsz : w.heap.size + 1 < w3.heap.size := Nat.lt_of_lt_of_le hsz hb3.size; replace hsn := Nat.ne_of_lt hsz; replace HB1 : Hid (Below w.heap.size w w3) := HB1.out.trans (hb3.mono HB1.out.size); clear hb3)))
      go_wp2_with fail
      refine bodyPost_ret (results_cellV rfl _ _ (w.heap.size + 1) (.int .u64 0) (.int .u64 0) (.slice none 0 0) (.slice none 0 0) (.slice (some ⟨w3.heap.size, 0, none⟩) 2 2) rfl (by go_simp) (by go_simp) (by go_simp) (by go_simp) (by go_simp)) rfl ?_
      rw [← HPE.out, ← HQE.out]
      exact bottom_end HPI.out HQI.out hsz (by simp) (fun b hbb => by
        rw [Below.heap_setCell _ _ _ _ (by show b ≠ w.heap.size + 1; omega), Below.heap_setCell _ _ _ _ (by show b ≠ w.heap.size + 1; omega), Below.heap_setCell _ _ _ _ (by show b ≠ w.heap.size + 1; omega), Below.heap_setCell _ _ _ _ (by show b ≠ w.heap.size + 1; omega), Below.heap_setCell _ _ _ _ (by show b ≠ w.heap.size + 1; omega)])
        (((((HB1.out.setCell (by simp) _).setCell (by simp) _).setCell (by simp) _).setCell (by simp) _).setCell (by simp) _)
    · have HT : Hid (botT (Sc.mk k A c l).er = .zero) := botT_zero (by rw [S2.er_k]; exact fun h => hc h.2)
      rw [HT.out]
      have h5' : (k == 5) = false := by simp [hc]
      have h5'' : (k != 5) = true := by simp [hc]
      have HB2 : Hid (Below w.heap.size w ((w.alloc (.cells #[.int .i64 k, .slice A l.length c] 24)).alloc (.cells #[.int .u64 0, .int .u64 0, .slice none 0 0, .slice none 0 0, .slice none 0 0] 30))) := belAl (allocB _ _)
      clear HW1 a0 a1 b0 b1 b2 b3 b4 f0 f1 f2 f3 f4 hsz hc IH HP HI0 HI1 HB1
      go_enter Try.func29, Try.ntmps29
      go_wp2_with fail
      refine bodyPost_ret (results_cellV rfl _ _ (w.heap.size + 1) (.int .u64 0) (.int .u64 0) (.slice none 0 0) (.slice none 0 0) (.slice none 0 0) rfl (by go_simp) (by go_simp) (by go_simp) (by go_simp) (by go_simp)) rfl ?_
      exact ⟨.mk 0 0 none 0 [] none 0 [] none 0 [], rfl, rfl, inp_zero _ _, HB2.out⟩

set_option maxRecDepth 100000 in
set_option maxHeartbeats 1000000 in
theorem Bottom_any (s : Sc) (w : World) (hin : s.In w.heap.size w) : Calls Try.prog 12 #[s.val] w (RetWN w (botT s.er)) := by
  obtain ⟨k, A, c, l⟩ := s
  obtain ⟨w1, hw1⟩ : ∃ w1, ((w.alloc (.cells #[.int .i64 k, .slice A l.length c] 24)).alloc (.cells #[.int .u64 0, .int .u64 0, .slice none 0 0, .slice none 0 0, .slice none 0 0] 30)) = w1 := ⟨_, rfl⟩
  have HW1 := Lib.hid hw1
  have HB1 : Hid (Below w.heap.size w w1) := by rw [← hw1]; exact belAl (allocB _ _)
  have HI1 := Lib.hid (hin.later HB1.out)
  obtain ⟨q, hq⟩ : ∃ q, isT 16 (Sc.mk k A c l).er = q := ⟨_, rfl⟩
  have HQ := Lib.hid hq
  have HS := Lib.hid (S2.Is_any (Sc.mk k A c l) w1 HI1.out)
  rw [hq] at HS
  clear hin hw1 hq
  simp only [S2.val_mk] at HS ⊢
  have a0 : w1.cell? ⟨w.heap.size, 0, none⟩ = some (.int .i64 k) := by rw [← HW1.out]; go_simp
  have a1 : w1.cell? ⟨w.heap.size, 1, none⟩ = some (.slice A l.length c) := by rw [← HW1.out]; go_simp
  have b0 : w1.cell? ⟨w.heap.size + 1, 0, none⟩ = some (.int .u64 0) := by rw [← HW1.out]; go_simp
  have b1 : w1.cell? ⟨w.heap.size + 1, 1, none⟩ = some (.int .u64 0) := by rw [← HW1.out]; go_simp
  have b2 : w1.cell? ⟨w.heap.size + 1, 2, none⟩ = some (.slice none 0 0) := by rw [← HW1.out]; go_simp
  have b3 : w1.cell? ⟨w.heap.size + 1, 3, none⟩ = some (.slice none 0 0) := by rw [← HW1.out]; go_simp
  have b4 : w1.cell? ⟨w.heap.size + 1, 4, none⟩ = some (.slice none 0 0) := by rw [← HW1.out]; go_simp
  have f0 : w1.frozen? ⟨w.heap.size + 1, 0, none⟩ = false := by rw [← HW1.out]; go_simp
  have f1 : w1.frozen? ⟨w.heap.size + 1, 1, none⟩ = false := by rw [← HW1.out]; go_simp
  have f2 : w1.frozen? ⟨w.heap.size + 1, 2, none⟩ = false := by rw [← HW1.out]; go_simp
  have f3 : w1.frozen? ⟨w.heap.size + 1, 3, none⟩ = false := by rw [← HW1.out]; go_simp
  have f4 : w1.frozen? ⟨w.heap.size + 1, 4, none⟩ = false := by rw [← HW1.out]; go_simp
  have hsz : w.heap.size + 1 < w1.heap.size := by rw [← HW1.out]; simp
  go_enter Try.func12, Try.ntmps12
  go_wp2_with fail
  rw [HW1.out]
  clear HW1
  refine HS.out.mono ?_
  clear HS
  rintro e w2 ⟨rfl, hb2⟩
  replace a0 := (hb2.cell (p := ⟨w.heap.size, 0, none⟩) (by simp only; omega)).trans a0
  replace a1 := (hb2.cell (p := ⟨w.heap.size, 1, none⟩) (by simp only; omega)).trans a1
  replace b0 := (hb2.cell (p := ⟨w.heap.size + 1, 0, none⟩) (by simp only; omega)).trans b0
  replace f0 := (hb2.frozen (p := ⟨w.heap.size + 1, 0, none⟩) (by simp only; omega)).trans f0
  replace b1 := (hb2.cell (p := ⟨w.heap.size + 1, 1, none⟩) (by simp only; omega)).trans b1
  replace f1 := (hb2.frozen (p := ⟨w.heap.size + 1, 1, none⟩) (by simp only; omega)).trans f1
  replace b2 := (hb2.cell (p := ⟨w.heap.size + 1, 2, none⟩) (by simp only; omega)).trans b2
  replace f2 := (hb2.frozen (p := ⟨w.heap.size + 1, 2, none⟩) (by simp only; omega)).trans f2
  replace b3 := (hb2.cell (p := ⟨w.heap.size + 1, 3, none⟩) (by simp only; omega)).trans b3
  replace f3 := (hb2.frozen (p := ⟨w.heap.size + 1, 3, none⟩) (by simp only; omega)).trans f3
  replace b4 := (hb2.cell (p := ⟨w.heap.size + 1, 4, none⟩) (by simp only; omega)).trans b4
  replace f4 := (hb2.frozen (p := ⟨w.heap.size + 1, 4, none⟩) (by simp only; omega)).trans f4
  replace hsz := Nat.lt_of_lt_of_le hsz hb2.size
  have HB2 : Hid (Below w.heap.size w w2) := HB1.out.trans (hb2.mono HB1.out.size)
  have HI2 := Lib.hid (HI1.out.later hb2)
  clear hb2 HB1 HI1
  cases q with
  | false =>
    have HT : Hid (botT (Sc.mk k A c l).er = .zero) := botT_zero (fun h => by rw [HQ.out] at h; exact absurd h.1 (by simp))
    rw [HT.out]
    go_wp2_with fail
    refine bodyPost_ret (results_cellV rfl _ _ (w.heap.size + 1) (.int .u64 0) (.int .u64 0) (.slice none 0 0) (.slice none 0 0) (.slice none 0 0) rfl (by go_simp) (by go_simp) (by go_simp) (by go_simp) (by go_simp)) rfl ?_
    exact ⟨.mk 0 0 none 0 [] none 0 [] none 0 [], rfl, by rw [HT.out]; rfl, inp_zero _ _, ((((HB2.out.setCell (by simp) _).setCell (by simp) _).setCell (by simp) _).setCell (by simp) _).setCell (by simp) _⟩
  | true =>
    have HBT := Lib.hid (bottom_any (Sc.mk k A c l) 16 (Nat.le_refl _) HQ.out w2 HI2.out)
    simp only [S2.val_mk] at HBT
    go_wp2_with fail
    refine HBT.out.mono ?_
    clear HBT
    rintro e w3 ⟨⟨pn, pm, psA, psc, pss, pcA, pcc, pcs, pvA, pvc, pvs⟩, rfl, hpe, hpi, hb2⟩
    simp only [val_mk]
    have HPI : Hid ((Vl.mk pn pm psA psc pss pcA pcc pcs pvA pvc pvs).Inp (fun b => w.heap.size + 2 ≤ b ∧ b < w3.heap.size) w3) := hpi.mono fun b hb => ⟨by have := hb.1; omega, hb.2⟩
    have HPE := Lib.hid hpe
    replace a0 := (hb2.cell (p := ⟨w.heap.size, 0, none⟩) (by simp only; omega)).trans a0
    replace a1 := (hb2.cell (p := ⟨w.heap.size, 1, none⟩) (by simp only; omega)).trans a1
    replace b0 := (hb2.cell (p := ⟨w.heap.size + 1, 0, none⟩) (by simp only; omega)).trans b0
    replace f0 := (hb2.frozen (p := ⟨w.heap.size + 1, 0, none⟩) (by simp only; omega)).trans f0
    replace b1 := (hb2.cell (p := ⟨w.heap.size + 1, 1, none⟩) (by simp only; omega)).trans b1
    replace f1 := (hb2.frozen (p := ⟨w.heap.size + 1, 1, none⟩) (by simp only; omega)).trans f1
    replace b2 := (hb2.cell (p := ⟨w.heap.size + 1, 2, none⟩) (by simp only; omega)).trans b2
    replace f2 := (hb2.frozen (p := ⟨w.heap.size + 1, 2, none⟩) (by simp only; omega)).trans f2
    replace b3 := (hb2.cell (p := ⟨w.heap.size + 1, 3, none⟩) (by simp only; omega)).trans b3
    replace f3 := (hb2.frozen (p := ⟨w.heap.size + 1, 3, none⟩) (by simp only; omega)).trans f3
    replace b4 := (hb2.cell (p := ⟨w.heap.size + 1, 4, none⟩) (by simp only; omega)).trans b4
    replace f4 := (hb2.frozen (p := ⟨w.heap.size + 1, 4, none⟩) (by simp only; omega)).trans f4
    replace hsz := Nat.lt_of_lt_of_le hsz hb2.size
    have HB3 : Hid (Below w.heap.size w w3) := HB2.out.trans (hb2.mono HB2.out.size)
    clear hb2 HB2 HI2 hpi hpe
    go_wp2_with fail
    refine bodyPost_ret (results_cellV rfl _ _ (w.heap.size + 1) (.int .u64 pn) (.int .u64 pm) (.slice psA pss.length psc) (.slice pcA pcs.length pcc) (.slice pvA pvs.length pvc) rfl (by go_simp) (by go_simp) (by go_simp) (by go_simp) (by go_simp)) rfl ?_
    refine ⟨Vl.mk pn pm psA psc pss pcA pcc pcs pvA pvc pvs, rfl, HPE.out, ?_, ((((HB3.out.setCell (by simp) _).setCell (by simp) _).setCell (by simp) _).setCell (by simp) _).setCell (by simp) _⟩
    refine (HPI.out.keep fun b hb => ?_).mono fun b hb => ⟨by omega, by simpa using hb.2⟩
    rw [Below.heap_setCell _ _ _ _ (by show b ≠ w.heap.size + 1; omega), Below.heap_setCell _ _ _ _ (by show b ≠ w.heap.size + 1; omega), Below.heap_setCell _ _ _ _ (by show b ≠ w.heap.size + 1; omega), Below.heap_setCell _ _ _ _ (by show b ≠ w.heap.size + 1; omega), Below.heap_setCell _ _ _ _ (by show b ≠ w.heap.size + 1; omega)]
end Go.Proofs.Ytcpfjjimbnmaoaa.V4
