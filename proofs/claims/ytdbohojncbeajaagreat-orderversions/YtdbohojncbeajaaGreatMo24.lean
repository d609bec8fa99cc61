/- What join.join does, whole; pairs, if joinPairs does what it should. No condition but that what it takes lies in memory, values of the schema, or nothing. What slices.Equal does of texts, slices.EqualFunc of clocks. No condition but that they lie in memory. What value.alike does. No condition but that the two values lie in memory. What value.Same, value.Is, value.None do. No condition but that what is handed in lies in memory. What join.Join does; pairs, if joinPairs does what it should. No condition but that what it takes lies in memory. What value.Size does. No condition but that the value lies in memory. What value.bottom and value.Bottom do. No condition but that the schema lies in memory. What join.All does; pairs, if joinPairs does what it should. No condition but that what it takes lies in memory. -/
import Derived.Test.YtdbohojncbeajaaGreatMo23
import Derived.Test.YtdbohojncbeajaaGreatMo20
import Derived.Deep.DeepCutAuto
namespace Go.Proofs.YtdbohojncbeajaaGreat.J5
open Go.RowKit Go.Shelf
open C3 (Tk In belAl allocB)
open S2 (Sc Tr isT)
open V4 (Va Vl Ck isV botT LiesC val_mk er_mk isT_le)

/-- No pair in it. -/
inductive NoP : Tr → Prop
  | mk (k : Int) (l : List Tr) : k ≠ 5 → (∀ x ∈ l, NoP x) → NoP (.mk k l)

/-- joinPairs does what it should. -/
def PairsDo : Prop := ∀ (A : Option Addr) (c : Nat) (a b : Sc) (x y : Vl) (f g : Va → Va → Option Va) (w : World), S2.LiesS w.heap.size w A [a, b] → a.In w.heap.size w → b.In w.heap.size w → x.In w → y.In w → (x.vs = [] ∨ x.vs.length = 2) → (y.vs = [] ∨ y.vs.length = 2) →
  (∀ W : World, Below w.heap.size w W → Calls Tryz.prog 31 #[a.val, (halfV x 0).val, (halfV y 0).val] W (RetJ W (f (halfE x.er 0) (halfE y.er 0)))) →
  (∀ W : World, Below w.heap.size w W → Calls Tryz.prog 31 #[b.val, (halfV x 1).val, (halfV y 1).val] W (RetJ W (g (halfE x.er 1) (halfE y.er 1)))) →
  Calls Tryz.prog 46 #[.slice A 2 c, x.val, y.val] w (RetJ w (pairE f g x.er y.er))

set_option maxRecDepth 100000 in
set_option maxHeartbeats 1000000 in
theorem join_5 (HP : PairsDo) (A : Option Addr) (c : Nat) (a b : Sc) (x y : Vl) (f g : Va → Va → Option Va) (w : World) (hs : S2.LiesS w.heap.size w A [a, b]) (ha : a.In w.heap.size w) (hb : b.In w.heap.size w) (hx : x.In w) (hy : y.In w) (lx : x.vs = [] ∨ x.vs.length = 2) (ly : y.vs = [] ∨ y.vs.length = 2)
    (hf : ∀ W : World, Below w.heap.size w W → Calls Tryz.prog 31 #[a.val, (halfV x 0).val, (halfV y 0).val] W (RetJ W (f (halfE x.er 0) (halfE y.er 0))))
    (hg : ∀ W : World, Below w.heap.size w W → Calls Tryz.prog 31 #[b.val, (halfV x 1).val, (halfV y 1).val] W (RetJ W (g (halfE x.er 1) (halfE y.er 1)))) :
    Calls Tryz.prog 31 #[(Sc.mk 5 A c [a, b]).val, x.val, y.val] w (RetJ w (pairE f g x.er y.er)) := by
  have HJ := Lib.hid (fun W (hb' : Below w.heap.size w W) => HP A c a b x y f g W ((hs.below hb').up hb'.size) (ha.later hb') (hb.later hb') (hx.later hb') (hy.later hb') lx ly (fun W2 h2 => hf W2 (hb'.trans (h2.mono hb'.size))) (fun W2 h2 => hg W2 (hb'.trans (h2.mono hb'.size))))
  obtain ⟨res, hres⟩ : ∃ res, pairE f g x.er y.er = res := ⟨_, rfl⟩
  rw [hres] at HJ
  rw [hres]
  clear hx hy hres hf hg hs ha hb lx ly HP
  obtain ⟨n, m, sA, sc, ss, cA, cc, cs, vA, vc, vs⟩ := x
  obtain ⟨n', m', sA', sc', ss', cA', cc', cs', vA', vc', vs'⟩ := y
  simp only [val_mk] at HJ
  simp only [S2.val_mk, val_mk, List.length_cons, List.length_nil, Nat.zero_add, Nat.reduceAdd]
  obtain ⟨V, hV⟩ : ∃ V, (((w.alloc (.cells #[.int .i64 5, .slice A 2 c] 37)).alloc (.cells #[.int .u64 n, .int .u64 m, .slice sA ss.length sc, .slice cA cs.length cc, .slice vA vs.length vc] 29)).alloc (.cells #[.int .u64 n', .int .u64 m', .slice sA' ss'.length sc', .slice cA' cs'.length cc', .slice vA' vs'.length vc'] 29)).alloc (.cells #[.int .u64 0, .int .u64 0, .slice none 0 0, .slice none 0 0, .slice none 0 0] 29) = V := ⟨_, rfl⟩
  obtain ⟨q3, q4, q5, q6, hbV, hs0⟩ := blk4 hV
  have hsV : w.heap.size + 4 ≤ V.heap.size := by omega
  clear hs0
  have e0 : V.cell? ⟨w.heap.size, 0, none⟩ = some (.int .i64 5) := blk_cell q3 0 _ rfl
  have e1 : V.cell? ⟨w.heap.size, 1, none⟩ = some (.slice A 2 c) := blk_cell q3 1 _ rfl
  have a0 : V.cell? ⟨w.heap.size + 1, 0, none⟩ = some (.int .u64 n) := blk_cell q4 0 _ rfl
  have a1 : V.cell? ⟨w.heap.size + 1, 1, none⟩ = some (.int .u64 m) := blk_cell q4 1 _ rfl
  have a2 : V.cell? ⟨w.heap.size + 1, 2, none⟩ = some (.slice sA ss.length sc) := blk_cell q4 2 _ rfl
  have a3 : V.cell? ⟨w.heap.size + 1, 3, none⟩ = some (.slice cA cs.length cc) := blk_cell q4 3 _ rfl
  have a4 : V.cell? ⟨w.heap.size + 1, 4, none⟩ = some (.slice vA vs.length vc) := blk_cell q4 4 _ rfl
  have b0 : V.cell? ⟨w.heap.size + 1 + 1, 0, none⟩ = some (.int .u64 n') := blk_cell q5 0 _ rfl
  have b1 : V.cell? ⟨w.heap.size + 1 + 1, 1, none⟩ = some (.int .u64 m') := blk_cell q5 1 _ rfl
  have b2 : V.cell? ⟨w.heap.size + 1 + 1, 2, none⟩ = some (.slice sA' ss'.length sc') := blk_cell q5 2 _ rfl
  have b3 : V.cell? ⟨w.heap.size + 1 + 1, 3, none⟩ = some (.slice cA' cs'.length cc') := blk_cell q5 3 _ rfl
  have b4 : V.cell? ⟨w.heap.size + 1 + 1, 4, none⟩ = some (.slice vA' vs'.length vc') := blk_cell q5 4 _ rfl
  go_enter Tryz.func31, Tryz.ntmps31
  go_wp2_with fail
  refine (HJ.out V hbV).mono ?_
  rintro e U hr
  obtain ⟨⟨zn, zm, zsA, zsc, zss, zcA, zcc, zcs, zvA, zvc, zvs⟩, ev, rfl, hzi, hbU, hcase⟩ := retJ_case hr
  simp only [val_mk]
  have HZ := Lib.hid hzi
  have HC := Lib.hid hcase
  have q6U := q6.below (W' := U) hbU
  clear hr hzi hcase e0 e1 a0 a1 a2 a3 a4 b0 b1 b2 b3 b4 q3 q4 q5 hV
  have d0 : U.cell? ⟨w.heap.size + 1 + 1 + 1, 0, none⟩ = some (.int .u64 0) := blk_cell q6U 0 _ rfl
  have d1 : U.cell? ⟨w.heap.size + 1 + 1 + 1, 1, none⟩ = some (.int .u64 0) := blk_cell q6U 1 _ rfl
  have d2 : U.cell? ⟨w.heap.size + 1 + 1 + 1, 2, none⟩ = some (.slice none 0 0) := blk_cell q6U 2 _ rfl
  have d3 : U.cell? ⟨w.heap.size + 1 + 1 + 1, 3, none⟩ = some (.slice none 0 0) := blk_cell q6U 3 _ rfl
  have d4 : U.cell? ⟨w.heap.size + 1 + 1 + 1, 4, none⟩ = some (.slice none 0 0) := blk_cell q6U 4 _ rfl
  have f0 := blk_frozen q6U 0
  have f1 := blk_frozen q6U 1
  have f2 := blk_frozen q6U 2
  have f3 := blk_frozen q6U 3
  have f4 := blk_frozen q6U 4
  go_wp2_with fail
  refine bodyPost_ret (results_cv rfl _ _ (w.heap.size + 1 + 1 + 1) (.int .u64 zn) (.int .u64 zm) (.slice zsA zss.length zsc) (.slice zcA zcs.length zcc) (.slice zvA zvs.length zvc) rfl (blk_cell (set5_blk q6U) 0 _ rfl) (blk_cell (set5_blk q6U) 1 _ rfl) (blk_cell (set5_blk q6U) 2 _ rfl) (blk_cell (set5_blk q6U) 3 _ rfl) (blk_cell (set5_blk q6U) 4 _ rfl)) rfl ?_
  exact retJ_store hbV hbU (by omega) (by omega) HZ.out HC.out

theorem okV_leaf {n : Nat} {t : Tr} {x : Va} (hn : n ≤ 16) (h : isT n t = true) (h5 : t.k ≠ 5) (o : OkV t x) : isV t x = true := o.elim id fun e => e ▸ isV_zero hn h h5

/-- What it does, whole: pairs, where Q says that joinPairs does what it should. -/
theorem join_any (Q : Prop) (HP : Q → PairsDo) : ∀ (s : Sc) (n : Nat), n ≤ 16 → isT n s.er = true → (Q ∨ NoP s.er) → ∀ (x y : Vl) (w : World), s.In w.heap.size w → x.In w → y.In w → OkV s.er x.er → OkV s.er y.er →
    Calls Tryz.prog 31 #[s.val, x.val, y.val] w (RetJ w (joinE s.er x.er y.er)) := by
  intro s
  induction s using S2.Sc.ind with
  | h k A c l ih =>
    intro n hn ht hq x y w hs hx hy ox oy
    rw [S2.er_mk] at ht hq ox oy ⊢
    obtain ⟨m, hm, hc⟩ := isT_cases ht
    rcases hc with ⟨k', hk, e⟩ | ⟨k', a', hk, e, ha⟩ | ⟨a', b', e, ha, hb_⟩
    · obtain ⟨rfl, hl⟩ := (Tr.mk.injEq _ _ _ _).mp e
      obtain rfl : l = [] := List.map_eq_nil_iff.1 hl
      have h5 : (Tr.mk k []).k ≠ 5 := by simp only [Tr.k]; omega
      have vx := okV_leaf hn ht h5 ox
      have vy := okV_leaf hn ht h5 oy
      simp only [List.map_nil] at vx vy ⊢
      rcases hk with rfl | rfl | rfl | rfl | rfl
      · rw [joinE, if_neg (by decide), if_neg (by decide), if_neg (by decide)]; exact join_1 A c x y w hx hy
      · rw [joinE, if_neg (by decide), if_neg (by decide), if_neg (by decide)]; exact join_2 A c x y w hx hy
      · rw [joinE, if_pos rfl]
        obtain ⟨s1, e1, a1, a2, _⟩ := isV_set.1 vx
        obtain ⟨s2, e2, b1, b2, _⟩ := isV_set.1 vy
        exact join_3 A c x y w hx hy (by rw [e1]; exact a1) (by rw [e2]; exact b1) (by rw [e1]; exact Nat.le_trans a2 (by decide)) (by rw [e2]; exact Nat.le_trans b2 (by decide))
      · rw [joinE, if_neg (by decide), if_pos rfl]; exact join_6 A c x y w hx hy
      · rw [joinE, if_neg (by decide), if_neg (by decide), if_pos rfl]
        have cl : ∀ {x : Va}, isV (.mk 7 []) x = true → x.c.length ≤ 1 ∧ ∀ k ∈ x.c, k.length ≤ 40 := fun {x} h => by
          rcases isV_clock.1 h with rfl | ⟨c, rfl, h1, _⟩
          · exact ⟨by simp [Va.zero, Va.c], fun k hk => by cases hk⟩
          · refine ⟨by simp [Va.c], fun k hk => ?_⟩
            simp only [Va.c, List.mem_singleton] at hk
            subst hk
            exact (C3.isC_out h1).1
        refine join_7 A c x y w hx hy (cl vx).1 (cl vy).1 fun k hk => ?_
        rcases List.mem_append.1 hk with h | h
        · exact (cl vx).2 k h
        · exact (cl vy).2 k h
    · obtain ⟨rfl, hl⟩ := (Tr.mk.injEq _ _ _ _).mp e
      obtain ⟨a, rfl, rfl⟩ : ∃ a, l = [a] ∧ a.er = a' := by
        match l, hl with
        | [a], hl => exact ⟨a, rfl, by simpa using hl⟩
      have h5 : (Tr.mk k [a.er]).k ≠ 5 := by simp only [Tr.k]; omega
      simp only [List.map_cons, List.map_nil] at ht hq ox oy ⊢
      have vx := okV_leaf hn ht h5 ox
      have vy := okV_leaf hn ht h5 oy
      obtain ⟨hls, _, _, hall⟩ := hs.out
      have hqa : Q ∨ NoP a.er := hq.imp id fun h => by cases h with | mk _ _ _ h => exact h _ (by simp)
      have hin := hall a (by simp)
      have hj : ∀ (X Y : Vl), X.In w → Y.In w → (∀ u ∈ X.vs, isV a.er u.er = true) → (∀ u ∈ Y.vs, isV a.er u.er = true) → ∀ u v : Vl, (u ∈ X.vs ∨ u = vlZ) → (v ∈ Y.vs ∨ v = vlZ) → ∀ W : World, Below w.heap.size w W → Calls Tryz.prog 31 #[a.val, u.val, v.val] W (RetJ W (joinE a.er u.er v.er)) := by
        intro X Y hX hY vX vY u v hu hv W hb
        have up : ∀ {X u : Vl}, X.In w → (∀ u ∈ X.vs, isV a.er u.er = true) → (u ∈ X.vs ∨ u = vlZ) → u.In W ∧ OkV a.er u.er := fun {X u} hX vX hu => by
          rcases hu with hu | rfl
          · obtain ⟨n, m, sA, sc, ss, cA, cc, cs, vA, vc, vs⟩ := X
            exact ⟨(hX.out.vk u hu).later hb, .inl (vX u hu)⟩
          · exact ⟨V4.inp_zero _ _, .inr vlZ_er⟩
        exact ih a (by simp) m (by omega) ha hqa u v W (hin.later hb) (up hX vX hu).1 (up hY vY hv).1 (up hX vX hu).2 (up hY vY hv).2
      have vse : ∀ X : Vl, X.er.v = X.vs.map Vl.er := fun X => by cases X; rw [er_mk]; rfl
      rcases hk with rfl | rfl
      · rw [joinE, if_pos rfl]
        have fact : ∀ {X : Vl}, isV (.mk 4 [a.er]) X.er = true → X.er.s.length = X.vs.length ∧ ∀ u ∈ X.vs, isV a.er u.er = true := fun {X} h => by
          obtain ⟨s, v, e, _, h2, _, _, h5⟩ := isV_map.1 h
          have ev := vse X
          rw [e] at ev ⊢
          simp only [Va.v, Va.s] at ev ⊢
          refine ⟨by rw [h2, ev, List.length_map], fun u hu => (h5 _ (by rw [ev]; exact List.mem_map.2 ⟨u, hu, rfl⟩)).1⟩
        exact join_4 A c a x y _ w hls hx hy (fact vx).1 (fact vy).1 (hj x y hx hy (fact vx).2 (fact vy).2)
      · rw [joinE, if_neg (by decide)]
        have fact : ∀ {X : Vl}, isV (.mk 8 [a.er]) X.er = true → X.er.c.length = X.vs.length ∧ X.vs.length ≤ 1000 ∧ (∀ k ∈ X.er.c, C3.Asc k ∧ k.length ≤ 1000) ∧ ∀ u ∈ X.vs, isV a.er u.er = true := fun {X} h => by
          obtain ⟨s, v, e, h2, h3, _, h4, h5⟩ := isV_cause.1 h
          have ev := vse X
          rw [e] at ev ⊢
          simp only [Va.v, Va.c] at ev ⊢
          have hlen : X.vs.length = v.length := by rw [ev, List.length_map]
          refine ⟨by omega, by omega, fun k hk => ?_, fun u hu => h5 _ (by rw [ev]; exact List.mem_map.2 ⟨u, hu, rfl⟩)⟩
          have := C3.isC_out (h4 k hk)
          exact ⟨this.2.1, by omega⟩
        refine join_8 A c a x y _ w hls hx hy (fact vx).1 (fact vy).1 (fact vx).2.1 (fact vy).2.1 (fun k hk => ?_) (hj x y hx hy (fact vx).2.2.2 (fact vy).2.2.2)
        rcases List.mem_append.1 hk with h | h
        · exact (fact vx).2.2.1 k h
        · exact (fact vy).2.2.1 k h
    · obtain ⟨rfl, hl⟩ := (Tr.mk.injEq _ _ _ _).mp e
      obtain ⟨a, b, rfl, rfl, rfl⟩ : ∃ a b, l = [a, b] ∧ a.er = a' ∧ b.er = b' := by
        match l, hl with
        | [a, b], hl => simp at hl; exact ⟨a, b, rfl, hl.1, hl.2⟩
      simp only [List.map_cons, List.map_nil] at ht hq ox oy ⊢
      rcases hq with hq | hq
      · obtain ⟨hls, _, _, hall⟩ := hs.out
        have ina := hall a (by simp)
        have inb := hall b (by simp)
        have fact : ∀ {X : Vl}, X.In w → OkV (.mk 5 [a.er, b.er]) X.er → (X.vs = [] ∨ X.vs.length = 2) ∧ (∀ i, (halfV X i).In w) ∧ OkV a.er (halfV X 0).er ∧ OkV b.er (halfV X 1).er := fun {X} hX o => by
          have hin : ∀ i, (halfV X i).In w := fun i => by
            obtain ⟨n, m, sA, sc, ss, cA, cc, cs, vA, vc, vs⟩ := X
            unfold halfV
            simp only [V4.Vl.vs]
            cases e : vs[i]? with
            | none => exact V4.inp_zero _ _
            | some u => exact hX.out.vk u (List.mem_of_getElem? e)
          have vse : X.er.v = X.vs.map Vl.er := by cases X; rw [er_mk]; rfl
          rw [halfV_er, halfV_er]
          rcases o with o | o
          · obtain ⟨p, q, e, h1, h2⟩ := isV_pair.1 o
            rw [e] at vse ⊢
            refine ⟨.inr ?_, hin, .inl h1, .inl h2⟩
            have := congrArg List.length vse
            simpa [Va.v] using this.symm
          · rw [o] at vse ⊢
            refine ⟨.inl ?_, hin, .inr rfl, .inr rfl⟩
            exact List.map_eq_nil_iff.1 vse.symm
        obtain ⟨lx, ix, ox0, ox1⟩ := fact hx ox
        obtain ⟨ly, iy, oy0, oy1⟩ := fact hy oy
        rw [joinE]
        refine join_5 (HP hq) A c a b x y _ _ w hls ina inb hx hy lx ly (fun W hb => ?_) (fun W hb => ?_)
        · rw [← halfV_er, ← halfV_er]
          exact ih a (by simp) m (by omega) ha (.inl hq) _ _ W (ina.later hb) ((ix 0).later hb) ((iy 0).later hb) ox0 oy0
        · rw [← halfV_er, ← halfV_er]
          exact ih b (by simp) m (by omega) hb_ (.inl hq) _ _ W (inb.later hb) ((ix 1).later hb) ((iy 1).later hb) ox1 oy1
      · cases hq with | mk _ _ h _ => exact absurd rfl h
end Go.Proofs.YtdbohojncbeajaaGreat.J5

namespace Go.Proofs.YtdbohojncbeajaaGreat.V4
open Go.RowKit
open C3 (Tk isC belAl)

theorem eq_all {l l' : List Str} {i : Nat} (h0 : l.take i = l'.take i) (hi : l.length ≤ i) (hi' : l'.length ≤ i) : decide (l = l') = true := by
  rw [List.take_of_length_le hi, List.take_of_length_le hi'] at h0
  exact decide_eq_true h0
theorem ne_at {l l' : List Str} {i : Nat} {x x' : Str} (hx : l[i]? = some x) (hx' : l'[i]? = some x') (h : x ≠ x') : decide (l = l') = false := decide_eq_false fun e => h (by rw [e, hx'] at hx; cases hx; rfl)
theorem ne_len {l l' : List Str} (h : l.length ≠ l'.length) : decide (l = l') = false := decide_eq_false fun e => h (by rw [e])
theorem take_eq_succ {l l' : List Str} {i : Nat} {x : Str} (h0 : l.take i = l'.take i) (hx : l[i]? = some x) (hx' : l'[i]? = some x) : l.take (i + 1) = l'.take (i + 1) := by
  obtain ⟨h1, e1⟩ := List.getElem?_eq_some_iff.1 hx
  obtain ⟨h2, e2⟩ := List.getElem?_eq_some_iff.1 hx'
  rw [List.take_succ_eq_append_getElem h1, List.take_succ_eq_append_getElem h2, h0, e1, e2]

set_option maxHeartbeats 400000 in
theorem equalS_any (A A' : Option Addr) (c c' : Nat) (l l' : List Str) (w : World) (hl : Lies w A l) (hl' : Lies w A' l') (hn : l.length ≤ maxLen) :
    Calls Tryz.prog 35 #[.slice A l.length c, .slice A' l'.length c'] w (RetV w (.bool (decide (l = l')))) := by
  have hlm : l.length ≤ 9223372036854775807 := by unfold maxLen at hn; omega
  clear hn
  by_cases hlen : l.length = l'.length
  · have HLEN := Lib.hid hlen
    have hle : l'.length = l.length := hlen.symm
    clear hlen
    rw [hle]
    clear hle
    go_enter Tryz.func35, Tryz.ntmps35
    go_wp2_with fail
    go_loopw [13] (fun iv wr => ∃ k : Nat, k ≤ l.length ∧ iv = .int .i64 k ∧ Hid (l.take k = l'.take k) ∧ Below w.heap.size w wr) (fun iv _ => l.length - (intOf iv).toNat)
    case atStart => exact ⟨0, Nat.zero_le _, rfl, by simp [Hid], Below.refl _ _⟩
    case round =>
      obtain ⟨k, hk, rfl, h0, hbw⟩ := hrel
      by_cases hlt : k < l.length
      · have hlt' : k < l'.length := by have := HLEN.out; omega
        obtain ⟨b, off, rfl, hb, hc⟩ := (hl.below hbw).get hlt
        obtain ⟨x, hx⟩ : ∃ x, l[k]? = some x := ⟨_, List.getElem?_eq_getElem hlt⟩
        have hc0 := hc k x hx
        have HX := Lib.hid hx
        obtain ⟨b', off', rfl, hb', hc'⟩ := (hl'.below hbw).get hlt'
        obtain ⟨y, hy⟩ : ∃ y, l'[k]? = some y := ⟨_, List.getElem?_eq_getElem hlt'⟩
        have hd0 := hc' k y hy
        have HY := Lib.hid hy
        clear hx hc hl hy hc' hl'
        have hki : (k : Int) < (l.length : Int) := by omega
        by_cases he : x = y
        · subst he
          go_wp2_with fail
          go_quiet (fail)
          go_wp2_with fail
          go_roundw
          case rel => exact ⟨k + 1, by omega, by go_num, take_eq_succ h0.out HX.out HY.out, below_drewN hbw _⟩
          case measure => simp [intOf]; omega
        · have HE := Lib.hid he
          have hk2 : (x == y) = false := beq_str he
          clear he
          go_wp2_with fail
          go_quiet (fail)
          go_wp2_with fail
          go_ret
          exact ⟨ret_bool (ne_at HX.out HY.out HE.out).symm, below_drewN hbw _⟩
      · go_wp2_with fail
        go_ret
        exact ⟨ret_bool (eq_all h0.out (by omega) (by have := HLEN.out; omega)).symm, hbw⟩
  · rw [ne_len hlen]
    have hne : ¬ ((l.length : Int) = l'.length) := by omega
    clear hlen
    go_enter Tryz.func35, Tryz.ntmps35
    go_wp2_with fail
    go_ret
    exact ⟨rfl, Below.refl _ _⟩


set_option maxHeartbeats 1000000 in
theorem equalFuncC_any (A A' : Option Addr) (c c' : Nat) (l l' : List Ck) (w : World) (hl : LiesC (fun b => b < w.heap.size) w A (cellsC l)) (hl' : LiesC (fun b => b < w.heap.size) w A' (cellsC l')) (hn : l.length ≤ maxLen) (ht : ∀ k ∈ l, InC w k) (ht' : ∀ k ∈ l', InC w k) :
    Calls Tryz.prog 36 #[.slice A l.length c, .slice A' l'.length c', .func (.func 37) #[] #[]] w (RetV w (.bool (decide (l.map Ck.l = l'.map Ck.l)))) := by
  have hlm : l.length ≤ 9223372036854775807 := by unfold maxLen at hn; omega
  have HT := Lib.hid ht
  have HT' := Lib.hid ht'
  clear hn ht ht'
  by_cases hlen : l.length = l'.length
  · have HLEN := Lib.hid hlen
    have hle : l'.length = l.length := hlen.symm
    clear hlen
    rw [hle]
    clear hle
    go_enter Tryz.func36, Tryz.ntmps36
    go_wp2_with fail
    go_loopw [17] (fun iv wr => ∃ k : Nat, k ≤ l.length ∧ iv = .int .i64 k ∧ Hid ((l.take k).map Ck.l = (l'.take k).map Ck.l) ∧ Below w.heap.size w wr) (fun iv _ => l.length - (intOf iv).toNat)
    case atStart => exact ⟨0, Nat.zero_le _, rfl, by simp [Hid], Below.refl _ _⟩
    case round =>
      obtain ⟨k, hk, rfl, h0, hbw⟩ := hrel
      by_cases hlt : k < l.length
      · have hlt' : k < l'.length := by have := HLEN.out; omega
        obtain ⟨x, hx⟩ : ∃ x, l[k]? = some x := ⟨_, List.getElem?_eq_getElem hlt⟩
        obtain ⟨b, off, rfl, hb, hc0⟩ := clock_at (hl.below hbw) hx
        obtain ⟨y, hy⟩ : ∃ y, l'[k]? = some y := ⟨_, List.getElem?_eq_getElem hlt'⟩
        obtain ⟨b', off', rfl, hb', hd0⟩ := clock_at (hl'.below hbw) hy
        have HX := Lib.hid hx
        have HY := Lib.hid hy
        have HS := Lib.hid (C3.Same_any _ _ _ _ _ _ wr (Ck.Inp.inn ((HT.out x (List.mem_of_getElem? hx)).later hbw)) (Ck.Inp.inn ((HT'.out y (List.mem_of_getElem? hy)).later hbw)))
        obtain ⟨q, hq⟩ : ∃ q, decide (x.l = y.l) = q := ⟨_, rfl⟩
        have HQ := Lib.hid hq
        rw [hq] at HS
        clear hx hl hy hl' hq
        simp only [Ck.v] at hc0 hd0
        have hki : (k : Int) < (l.length : Int) := by omega
        go_wp2_with fail
        refine HS.out.mono ?_
        clear HS
        rintro e w' ⟨rfl, hb2⟩
        have hb3 : Below w.heap.size w w' := hbw.trans (hb2.mono hbw.size)
        cases q with
        | true =>
          go_wp2_with fail
          go_roundw
          case rel => exact ⟨k + 1, by omega, by go_num, map_take_succ h0.out HX.out HY.out (of_decide_eq_true HQ.out), hb3⟩
          case measure => simp [intOf]; omega
        | false =>
          go_wp2_with fail
          go_ret
          exact ⟨ret_bool (decide_eq_false (map_ne_at HX.out HY.out (of_decide_eq_false HQ.out))).symm, hb3⟩
      · go_wp2_with fail
        go_ret
        exact ⟨ret_bool (decide_eq_true (map_take_all h0.out (by omega) (by have := HLEN.out; omega))).symm, hbw⟩
  · have hr : decide (l.map Ck.l = l'.map Ck.l) = false := decide_eq_false fun e => hlen (by have := congrArg List.length e; simpa using this)
    rw [hr]
    have hne : ¬ ((l.length : Int) = l'.length) := by omega
    clear hlen hr
    go_enter Tryz.func36, Tryz.ntmps36
    go_wp2_with fail
    go_ret
    exact ⟨rfl, Below.refl _ _⟩
end Go.Proofs.YtdbohojncbeajaaGreat.V4

namespace Go.Proofs.YtdbohojncbeajaaGreat.V4
open Go.RowKit Go.Shelf
open C3 (Tk isC belAl)
open S2 (allocB)

/-- Two values, looked at alone. -/
def alikeK (x : Vl × Vl) : Bool := decide (x.1.n = x.2.n) && (decide (x.1.m = x.2.m) && (decide (x.1.ss = x.2.ss) && (decide (x.1.cs.map Ck.l = x.2.cs.map Ck.l) && decide (x.1.vs.length = x.2.vs.length))))

/-- The two, each in a variable of its own. -/
def TwoB (x : Vl × Vl) (pa pb : Nat) (w : World) : Prop :=
  (∀ i v, (#[.int .u64 x.1.n, .int .u64 x.1.m, x.1.s1, x.1.c1, x.1.v1] : Array Value)[i]? = some v → w.cell? ⟨pa, i, none⟩ = some v) ∧ (∀ i v, (#[.int .u64 x.2.n, .int .u64 x.2.m, x.2.s1, x.2.c1, x.2.v1] : Array Value)[i]? = some v → w.cell? ⟨pb, i, none⟩ = some v)

theorem two_boxes (w : World) (o : Obj) (c1 c2 : Array Value) (t1 t2 : TypeId) : (∀ i v, c1[i]? = some v → (((w.alloc o).alloc (.cells c1 t1)).alloc (.cells c2 t2)).drew.cell? ⟨w.heap.size + 1, i, none⟩ = some v) ∧
    (∀ i v, c2[i]? = some v → (((w.alloc o).alloc (.cells c1 t1)).alloc (.cells c2 t2)).drew.cell? ⟨w.heap.size + 1 + 1, i, none⟩ = some v) ∧ Below w.heap.size w (((w.alloc o).alloc (.cells c1 t1)).alloc (.cells c2 t2)).drew := by
  refine ⟨fun i v h => ?_, fun i v h => ?_, (belAl (belAl (belAl (Below.refl _ _)))).drew⟩
  · exact ((belAl1 (Below.refl (w.heap.size + 2) ((w.alloc o).alloc (.cells c1 t1))) (by simp)).cell (p := ⟨w.heap.size + 1, i, none⟩) (by simp)).trans (alloc2_cell i v h)
  · have := alloc2_cell (w := w.alloc o) (a := .cells c1 t1) (t := t2) i v h
    rw [World.size_alloc] at this
    exact this

set_option maxRecDepth 100000 in
set_option maxHeartbeats 2000000 in
theorem alike_any (x : Vl × Vl) (w : World) (hin : InK w x) : Calls Tryz.prog 28 #[valK x] w (RetV w (.bool (alikeK x))) := by
  have HIN := Lib.hid hin
  clear hin
  obtain ⟨⟨yn, ym, ysA, ysc, yss, ycA, ycc, ycs, yvA, yvc, yvs⟩, zn, zm, zsA, zsc, zss, zcA, zcc, zcs, zvA, zvc, zvs⟩ := x
  simp only [valK, cellsK, Vl.n, Vl.m, Vl.s1, Vl.c1, Vl.v1]
  go_enter Tryz.func28, Tryz.ntmps28
  go_upto_region 1 with fail
  go_cut [3, 4] (fun s3 s4 wx => ∃ (pa pb : Nat), s3 = .pointer (some ⟨pa, 0, none⟩) ∧ s4 = .pointer (some ⟨pb, 0, none⟩) ∧ TwoB (Vl.mk yn ym ysA ysc yss ycA ycc ycs yvA yvc yvs, Vl.mk zn zm zsA zsc zss zcA zcc zcs zvA zvc zvs) pa pb wx ∧ Below w.heap.size w wx)
  case first =>
    go_region
    · go_wp2_with fail
      go_meet
      have h := two_boxes w (.cells #[.int .u64 yn, .int .u64 ym, .slice ysA yss.length ysc, .slice ycA ycs.length ycc, .slice yvA yvs.length yvc, .int .u64 zn, .int .u64 zm, .slice zsA zss.length zsc, .slice zcA zcs.length zcc, .slice zvA zvs.length zvc] 69)
        #[.int .u64 yn, .int .u64 ym, .slice ysA yss.length ysc, .slice ycA ycs.length ycc, .slice yvA yvs.length yvc] #[.int .u64 zn, .int .u64 zm, .slice zsA zss.length zsc, .slice zcA zcs.length zcc, .slice zvA zvs.length zvc] 29 29
      exact ⟨_, _, rfl, rfl, ⟨h.1, h.2.1⟩, h.2.2⟩
    · go_wp2_with fail
      go_meet
      have h := two_boxes w (.cells #[.int .u64 yn, .int .u64 ym, .slice ysA yss.length ysc, .slice ycA ycs.length ycc, .slice yvA yvs.length yvc, .int .u64 zn, .int .u64 zm, .slice zsA zss.length zsc, .slice zcA zcs.length zcc, .slice zvA zvs.length zvc] 69)
        #[.int .u64 zn, .int .u64 zm, .slice zsA zss.length zsc, .slice zcA zcs.length zcc, .slice zvA zvs.length zvc] #[.int .u64 yn, .int .u64 ym, .slice ysA yss.length ysc, .slice ycA ycs.length ycc, .slice yvA yvs.length yvc] 29 29
      exact ⟨_, _, rfl, rfl, ⟨h.2.1, h.1⟩, h.2.2⟩
  case rest =>
    obtain ⟨pa, pb, rfl, rfl, ⟨ha, hbb⟩, hB⟩ := hcut
    have a0 := ha 0 _ rfl
    have a1 := ha 1 _ rfl
    have a2 := ha 2 _ rfl
    have a3 := ha 3 _ rfl
    have a4 := ha 4 _ rfl
    have b0 := hbb 0 _ rfl
    have b1 := hbb 1 _ rfl
    have b2 := hbb 2 _ rfl
    have b3 := hbb 3 _ rfl
    have b4 := hbb 4 _ rfl
    simp only [Vl.n, Vl.m, Vl.s1, Vl.c1, Vl.v1] at a0 a1 a2 a3 a4 b0 b1 b2 b3 b4
    have hpa := World.block_lt_of_cell? wc _ a0
    have hpb := World.block_lt_of_cell? wc _ b0
    simp only at hpa hpb
    clear ha hbb
    have hp1 := (HIN.out.1.later hB).out
    have hp2 := (HIN.out.2.later hB).out
    have HES := Lib.hid (equalS_any ysA zsA ysc zsc yss zss wc hp1.sl hp2.sl (by have := hp1.sb; omega))
    have HEC : Hid (∀ Z, Below wc.heap.size wc Z → Calls Tryz.prog 36 #[.slice ycA ycs.length ycc, .slice zcA zcs.length zcc, .func (.func 37) #[] #[]] Z (RetV Z (.bool (decide (ycs.map Ck.l = zcs.map Ck.l))))) := fun Z hZ => by
      have g1 := (HIN.out.1.later hB).later hZ
      have g2 := (HIN.out.2.later hB).later hZ
      exact equalFuncC_any ycA zcA ycc zcc ycs zcs Z g1.out.cl g2.out.cl (by have := g1.out.cb; omega) (ckIn _ _ _ _ _ _ _ _ _ _ _ g1) (ckIn _ _ _ _ _ _ _ _ _ _ _ g2)
    clear hp1 hp2 HIN
    obtain ⟨q1, hq1⟩ : ∃ q, decide (yss = zss) = q := ⟨_, rfl⟩
    obtain ⟨q2, hq2⟩ : ∃ q, decide (ycs.map Ck.l = zcs.map Ck.l) = q := ⟨_, rfl⟩
    rw [hq1] at HES
    rw [hq2] at HEC
    obtain ⟨res, hres⟩ : ∃ res, alikeK (Vl.mk yn ym ysA ysc yss ycA ycc ycs yvA yvc yvs, Vl.mk zn zm zsA zsc zss zcA zcc zcs zvA zvc zvs) = res := ⟨_, rfl⟩
    have HRES : Hid ((decide (yn = zn) && (decide (ym = zm) && (q1 && (q2 && decide (yvs.length = zvs.length))))) = res) := by
      show _ = res
      rw [← hres, ← hq1, ← hq2]
      rfl
    clear hq1 hq2
    by_cases h1 : yn = zn
    case neg =>
      have k1 : (yn == zn) = false := ibne h1
      rw [decide_eq_false h1] at HRES
      clear h1
      go_wp2_with fail
      go_ret
      exact ⟨ret_bool (by rw [hres, ← HRES.out]; rfl), hB⟩
    have k1 : (yn == zn) = true := ibeq h1
    rw [decide_eq_true h1] at HRES
    clear h1
    by_cases h2 : ym = zm
    case neg =>
      have k2 : (ym == zm) = false := ibne h2
      rw [decide_eq_false h2] at HRES
      clear h2
      go_wp2_with fail
      go_ret
      exact ⟨ret_bool (by rw [hres, ← HRES.out]; rfl), hB⟩
    have k2 : (ym == zm) = true := ibeq h2
    rw [decide_eq_true h2] at HRES
    clear h2
    go_wp2_with fail
    refine HES.out.mono ?_
    clear HES
    rintro e w2 ⟨rfl, hb2⟩
    have HEC2 := Lib.hid (HEC.out w2 hb2)
    clear HEC
    replace hB := hB.trans (hb2.mono hB.size)
    replace a0 := (hb2.cell (p := ⟨pa, 0, none⟩) hpa).trans a0
    replace a1 := (hb2.cell (p := ⟨pa, 1, none⟩) hpa).trans a1
    replace a2 := (hb2.cell (p := ⟨pa, 2, none⟩) hpa).trans a2
    replace a3 := (hb2.cell (p := ⟨pa, 3, none⟩) hpa).trans a3
    replace a4 := (hb2.cell (p := ⟨pa, 4, none⟩) hpa).trans a4
    replace b0 := (hb2.cell (p := ⟨pb, 0, none⟩) hpb).trans b0
    replace b1 := (hb2.cell (p := ⟨pb, 1, none⟩) hpb).trans b1
    replace b2 := (hb2.cell (p := ⟨pb, 2, none⟩) hpb).trans b2
    replace b3 := (hb2.cell (p := ⟨pb, 3, none⟩) hpb).trans b3
    replace b4 := (hb2.cell (p := ⟨pb, 4, none⟩) hpb).trans b4
    replace hpa := Nat.lt_of_lt_of_le hpa hb2.size
    replace hpb := Nat.lt_of_lt_of_le hpb hb2.size
    clear hb2
    cases q1 with
    | false =>
      go_wp2_with fail
      go_ret
      exact ⟨ret_bool (by rw [hres, ← HRES.out]; rfl), hB⟩
    | true =>
      go_wp2_with fail
      refine HEC2.out.mono ?_
      clear HEC2
      rintro e w3 ⟨rfl, hb2⟩
      replace hB := hB.trans (hb2.mono hB.size)
      replace a0 := (hb2.cell (p := ⟨pa, 0, none⟩) hpa).trans a0
      replace a1 := (hb2.cell (p := ⟨pa, 1, none⟩) hpa).trans a1
      replace a2 := (hb2.cell (p := ⟨pa, 2, none⟩) hpa).trans a2
      replace a3 := (hb2.cell (p := ⟨pa, 3, none⟩) hpa).trans a3
      replace a4 := (hb2.cell (p := ⟨pa, 4, none⟩) hpa).trans a4
      replace b0 := (hb2.cell (p := ⟨pb, 0, none⟩) hpb).trans b0
      replace b1 := (hb2.cell (p := ⟨pb, 1, none⟩) hpb).trans b1
      replace b2 := (hb2.cell (p := ⟨pb, 2, none⟩) hpb).trans b2
      replace b3 := (hb2.cell (p := ⟨pb, 3, none⟩) hpb).trans b3
      replace b4 := (hb2.cell (p := ⟨pb, 4, none⟩) hpb).trans b4
      clear hb2
      cases q2 with
      | false =>
        go_wp2_with fail
        go_ret
        exact ⟨ret_bool (by rw [hres, ← HRES.out]; rfl), hB⟩
      | true =>
        by_cases h5 : yvs.length = zvs.length
        · have k5 : ((yvs.length : Int) == (zvs.length : Int)) = true := ibeq (by omega)
          rw [decide_eq_true h5] at HRES
          clear h5
          go_wp2_with fail
          go_ret
          exact ⟨ret_bool (by rw [hres, ← HRES.out]; rfl), hB⟩
        · have k5 : ((yvs.length : Int) == (zvs.length : Int)) = false := ibne (by omega)
          rw [decide_eq_false h5] at HRES
          clear h5
          go_wp2_with fail
          go_ret
          exact ⟨ret_bool (by rw [hres, ← HRES.out]; rfl), hB⟩
end Go.Proofs.YtdbohojncbeajaaGreat.V4

namespace Go.Proofs.YtdbohojncbeajaaGreat.V4
open Go.RowKit Go.Shelf
open C3 (Tk isC belAl)
open S2 (Sc isT allocB)

theorem inK_pre {w : World} : ∀ (a b : Vl), InK w (a, b) → ∀ x ∈ (treeC a b).pre, InK w x := fun a b h x hx => by
  have hg := goodK (D := w.heap.size) a b (h.1.bar (Nat.le_refl _)) (h.2.bar (Nat.le_refl _))
  have := hg.all x hx
  exact ⟨this.1.inn, this.2.inn⟩

theorem alike_safe {x : Vl × Vl} (h : alikeK x = true) : SafeK x := by
  unfold alikeK at h
  simp only [Bool.and_eq_true, decide_eq_true_eq] at h
  unfold SafeK
  omega

theorem all_treeC (p : Vl × Vl → Bool) (a b : Vl) : (treeC a b).pre.all p = (p (a, b) && (List.zipWith (fun x y => (treeC x y).pre.all p) a.vs b.vs).all id) := by
  rw [treeC_mk, Nd.pre, List.all_cons]
  congr 1
  have h : ∀ (l : List (Nd (Vl × Vl))), (Nd.preL l).all p = l.all fun t => t.pre.all p := fun l => by
    induction l with
    | nil => rfl
    | cons t l ih => rw [Nd.preL, List.all_append, ih, List.all_cons]
  rw [h]
  have h2 : ∀ (l l' : List Vl), (List.zipWith treeC l l').all (fun t => t.pre.all p) = (List.zipWith (fun x y => (treeC x y).pre.all p) l l').all id := fun l => by
    induction l with
    | nil => intro l'; simp
    | cons x l ih => intro l'; cases l' with
      | nil => simp
      | cons y l' => simp only [List.zipWith_cons_cons, List.all_cons, ih l', id]
  exact h2 _ _

theorem alike_mk (n m : Int) (sA : Option Addr) (sc : Nat) (ss : List Str) (cA : Option Addr) (cc : Nat) (cs : List Ck) (vA : Option Addr) (vc : Nat) (vs : List Vl) (n' m' : Int) (sA' : Option Addr) (sc' : Nat) (ss' : List Str) (cA' : Option Addr) (cc' : Nat) (cs' : List Ck) (vA' : Option Addr) (vc' : Nat) (vs' : List Vl) :
    alikeK (Vl.mk n m sA sc ss cA cc cs vA vc vs, Vl.mk n' m' sA' sc' ss' cA' cc' cs' vA' vc' vs') = (decide (n = n') && (decide (m = m') && (decide (ss = ss') && (decide (cs.map Ck.l = cs'.map Ck.l) && decide (vs.length = vs'.length))))) := rfl

theorem same_all : ∀ (a b : Vl), (treeC a b).pre.all alikeK = decide (a.er = b.er) := by
  intro a
  induction a using Vl.ind with
  | h n m sA sc ss cA cc cs vA vc vs ih =>
    rintro ⟨n', m', sA', sc', ss', cA', cc', cs', vA', vc', vs'⟩
    rw [all_treeC, er_mk, er_mk]
    have hz : ∀ (l l' : List Vl), (∀ x ∈ l, ∀ b, (treeC x b).pre.all alikeK = decide (x.er = b.er)) → l.length = l'.length → (List.zipWith (fun x y => (treeC x y).pre.all alikeK) l l').all id = decide (l.map Vl.er = l'.map Vl.er) := fun l => by
      induction l with
      | nil => intro l' _ hl; cases l' with
        | nil => rfl
        | cons y l' => simp at hl
      | cons x l ihl => intro l' hx hl; cases l' with
        | nil => simp at hl
        | cons y l' =>
          simp only [List.zipWith_cons_cons, List.all_cons, id, List.map_cons]
          rw [hx x (by simp) y]
          have := ihl l' (fun z hz => hx z (List.mem_cons_of_mem _ hz)) (by simpa using hl)
          rw [show (List.zipWith (fun x y => (treeC x y).pre.all alikeK) l l').all id = decide (l.map Vl.er = l'.map Vl.er) from this, ← Bool.decide_and]
          refine decide_eq_decide.2 ?_
          rw [List.cons.injEq]
    rw [alike_mk]
    simp only [Vl.vs]
    by_cases hl : vs.length = vs'.length
    · rw [hz vs vs' ih hl, ← Bool.decide_and, ← Bool.decide_and, ← Bool.decide_and, ← Bool.decide_and, ← Bool.decide_and]
      refine decide_eq_decide.2 ?_
      rw [mk_inj]
      constructor
      · rintro ⟨⟨h1, h2, h3, h4, _⟩, h5⟩; exact ⟨h1, h2, h3, h4, h5⟩
      · rintro ⟨h1, h2, h3, h4, h5⟩; exact ⟨⟨h1, h2, h3, h4, hl⟩, h5⟩
    · rw [decide_eq_false hl]
      simp only [Bool.and_false, Bool.false_and]
      refine (decide_eq_false fun h => hl ?_).symm
      rw [mk_inj] at h
      have := congrArg List.length h.2.2.2.2
      simpa using this

set_option maxRecDepth 100000 in
set_option maxHeartbeats 1000000 in
theorem Same_any (a b : Vl) (w : World) (ha : a.In w) (hb : b.In w) : Calls Tryz.prog 19 #[a.val, b.val] w (RetV w (.bool (decide (a.er = b.er)))) := by
  obtain ⟨V, hV⟩ : ∃ V, ((w.alloc (.cells #[.int .u64 a.n, .int .u64 a.m, a.s1, a.c1, a.v1] 29)).alloc (.cells #[.int .u64 b.n, .int .u64 b.m, b.s1, b.c1, b.v1] 29)) = V := ⟨_, rfl⟩
  have hB0 : Below w.heap.size w V := by rw [← hV]; exact belAl (belAl (Below.refl _ _))
  have hcS : ∀ i u, (#[.int .u64 a.n, .int .u64 a.m, a.s1, a.c1, a.v1] : Array Value)[i]? = some u → V.cell? ⟨w.heap.size, i, none⟩ = some u := fun i u h => by
    rw [← hV]
    exact ((belAl1 (Below.refl (w.heap.size + 1) (w.alloc (.cells #[.int .u64 a.n, .int .u64 a.m, a.s1, a.c1, a.v1] 29))) (by simp)).cell (p := ⟨w.heap.size, i, none⟩) (by simp)).trans (alloc_cells i u h)
  have hcV : ∀ i u, (#[.int .u64 b.n, .int .u64 b.m, b.s1, b.c1, b.v1] : Array Value)[i]? = some u → V.cell? ⟨w.heap.size + 1, i, none⟩ = some u := fun i u h => by
    rw [← hV]
    exact alloc2_cell i u h
  have hin : InK V (a, b) := ⟨ha.later hB0, hb.later hB0⟩
  have hn := nested_K (treeC a b) V (fun D hD => goodK a b (hin.1.bar hD) (hin.2.bar hD))
  rw [treeC_lab] at hn
  have HN := Lib.hid hn
  have HE : Hid (∀ (b1 b2 : Nat) (w' : World), Below V.heap.size V w' → (∀ D w2, Below w'.heap.size w' w2 → V.heap.size ≤ D → D < w2.heap.size → SeqO Tryz.prog 32 #[.pointer (some ⟨b1, 0, none⟩), .pointer (some ⟨b2, 0, none⟩)] encK D SafeK (treeC a b).pre w2) →
      Calls Tryz.prog 25 #[.func (.func 32) #[] #[.pointer (some ⟨b1, 0, none⟩), .pointer (some ⟨b2, 0, none⟩)], .func (.func 28) #[] #[]] w' (RetV w' (.bool (decide (a.er = b.er))))) := fun b1 b2 w' hbw hs => by
    rw [← same_all]
    exact every_alike alikeK (treeC a b).pre (fun y _ W hW => alike_any y W hW) SafeK (fun y _ h => alike_safe h) _ _ (enters_of Tryz.func32 (by kernel_rfl) rfl) w'
      (fun D w2 hb2 hD hD2 => hs D w2 hb2 (Nat.le_trans hbw.size hD) hD2) (fun y hy => inK_pre a b (hin.later hbw) y hy)
  obtain ⟨R, hR⟩ : ∃ R, decide (a.er = b.er) = R := ⟨_, rfl⟩
  rw [hR] at HE ⊢
  clear hin ha hb hn hR
  have a0 := hcS 0 _ rfl
  have a1 := hcS 1 _ rfl
  have a2 := hcS 2 _ rfl
  have a3 := hcS 3 _ rfl
  have a4 := hcS 4 _ rfl
  have g0 := hcV 0 _ rfl
  have g1 := hcV 1 _ rfl
  have g2 := hcV 2 _ rfl
  have g3 := hcV 3 _ rfl
  have g4 := hcV 4 _ rfl
  clear hcS hcV
  obtain ⟨yn, ym, ysA, ysc, yss, ycA, ycc, ycs, yvA, yvc, yvs⟩ := a
  obtain ⟨n, m, sA, sc, ss, cA, cc, cs, vA, vc, vs⟩ := b
  simp only [val_mk, valK, cellsK, Vl.n, Vl.m, Vl.s1, Vl.c1, Vl.v1] at a0 a1 a2 a3 a4 g0 g1 g2 g3 g4 HN hV ⊢
  go_enter Tryz.func19, Tryz.ntmps19
  go_wp2_with fail
  clear hV
  refine HN.out.mono ?_
  clear HN
  rintro e w4 ⟨b1, b2, rfl, hb4, hseq⟩
  have HE4 := Lib.hid (HE.out b1 b2 w4 hb4 hseq)
  clear HE hseq
  go_wp2_with fail
  refine HE4.out.mono ?_
  rintro e w5 ⟨rfl, hb5⟩
  go_wp2_with fail
  go_ret
  exact ⟨rfl, hB0.trans ((hb4.trans (hb5.mono hb4.size)).mono hB0.size)⟩

theorem Is_any (s : Sc) (v : Vl) (w : World) (hs : s.In w.heap.size w) (hv : v.In w) : Calls Tryz.prog 30 #[s.val, v.val] w (RetV w (.bool (isT 16 s.er && isV s.er v.er))) := by
  have := Is_walk s v w hs hv
  cases h : isT 16 s.er with
  | false => rw [h] at this; exact this
  | true => rw [h, rightAll_isV v s 16 (Nat.le_refl _) h] at this; exact this

end Go.Proofs.YtdbohojncbeajaaGreat.V4

namespace Go.Proofs.YtdbohojncbeajaaGreat.J5
open Go.RowKit Go.Shelf
open C3 (Tk In belAl allocB)
open S2 (Sc Tr isT)
open V4 (Va Vl Ck isV botT LiesC val_mk er_mk isT_le)

/-- A call that answers a value in new memory, and no error; or zero and the error. -/
def RetK (w : World) (o : Except Int Va) (e : Ending) (w' : World) : Prop :=
  (∃ x : Vl, o = .ok x.er ∧ e = .returned (.tuple #[x.val, .nilIface]) ∧ x.Inp (fun b => w.heap.size ≤ b ∧ b < w'.heap.size) w' ∧ Below w.heap.size w w') ∨
  (∃ n, o = .error n ∧ e = .returned (.tuple #[vlZ.val, errV n]) ∧ Below w.heap.size w w')
/-- Both together, or the error's number. -/
def joinF (t : Tr) (x y : Va) : Except Int Va := if isT 16 t = true then stepE t x y else .error 14
theorem joinF_no {t : Tr} {x y : Va} (h : (isT 16 t && isV t x) = false ∨ (isT 16 t && isV t y) = false) : joinF t x y = .error 14 := by
  unfold joinF
  split
  · rename_i ht
    rw [ht, Bool.true_and, Bool.true_and] at h
    unfold stepE
    rw [if_neg]
    rintro ⟨h1, h2⟩
    rw [h1, h2] at h
    simp at h
  · rfl
theorem joinF_yes {t : Tr} {x y : Va} (h1 : (isT 16 t && isV t x) = true) (h2 : (isT 16 t && isV t y) = true) : isT 16 t = true ∧ isV t x = true ∧ isV t y = true ∧ joinF t x y = match joinE t x y with | some z => .ok z | none => .error 13 := by
  rw [Bool.and_eq_true] at h1 h2
  refine ⟨h1.1, h1.2, h2.2, ?_⟩
  unfold joinF stepE
  rw [if_pos h1.1, if_pos ⟨h1.2, h2.2⟩]
  cases joinE t x y <;> rfl
theorem retK_of_J {w : World} {t : Tr} {x y : Va} {e : Ending} {w' : World} (hF : joinF t x y = match joinE t x y with | some z => .ok z | none => .error 13) (h : RetJ w (joinE t x y) e w') : RetK w (joinF t x y) e w' := by
  rw [hF]
  rcases h with ⟨z, ho, h⟩ | ⟨ho, h⟩
  · rw [ho]; exact .inl ⟨z, rfl, h⟩
  · rw [ho]; exact .inr ⟨13, rfl, h⟩

set_option maxRecDepth 100000 in
set_option maxHeartbeats 2000000 in
theorem Join_any (Q : Prop) (HP : Q → PairsDo) (s : Sc) (x y : Vl) (w : World) (hs : s.In w.heap.size w) (hx : x.In w) (hy : y.In w) (hq : isT 16 s.er = true → Q ∨ NoP s.er) :
    Calls Tryz.prog 24 #[s.val, x.val, y.val] w (RetK w (joinF s.er x.er y.er)) := by
  obtain ⟨p1, hp1⟩ : ∃ p, (isT 16 s.er && isV s.er x.er) = p := ⟨_, rfl⟩
  obtain ⟨p2, hp2⟩ : ∃ p, (isT 16 s.er && isV s.er y.er) = p := ⟨_, rfl⟩
  have H1 := Lib.hid (fun W (hb : Below w.heap.size w W) => V4.Is_any s x W (hs.later hb) (hx.later hb))
  have H2 := Lib.hid (fun W (hb : Below w.heap.size w W) => V4.Is_any s y W (hs.later hb) (hy.later hb))
  have HJ : Hid (p1 = true → p2 = true → ∀ W, Below w.heap.size w W → Calls Tryz.prog 31 #[s.val, x.val, y.val] W (RetJ W (joinE s.er x.er y.er))) := fun e1 e2 W hb => by
    obtain ⟨h1, h2, h3, _⟩ := joinF_yes (hp1.trans e1) (hp2.trans e2)
    exact join_any Q HP s 16 (Nat.le_refl _) h1 (hq h1) x y W (hs.later hb) (hx.later hb) (hy.later hb) (.inl h2) (.inl h3)
  rw [hp1] at H1
  rw [hp2] at H2
  have HNO : Hid (p1 = false ∨ p2 = false → joinF s.er x.er y.er = .error 14) := fun h => joinF_no (h.imp (fun e => hp1.trans e) (fun e => hp2.trans e))
  have HYES : Hid (p1 = true → p2 = true → joinF s.er x.er y.er = match joinE s.er x.er y.er with | some z => .ok z | none => .error 13) := fun e1 e2 => (joinF_yes (hp1.trans e1) (hp2.trans e2)).2.2.2
  obtain ⟨R, hR⟩ : ∃ R, RetK w (joinF s.er x.er y.er) = R := ⟨_, rfl⟩
  have HR := Lib.hid hR
  rw [hR]
  obtain ⟨jo, hjo⟩ : ∃ jo, joinE s.er x.er y.er = jo := ⟨_, rfl⟩
  rw [hjo] at HJ
  have HJO := Lib.hid hjo
  obtain ⟨s0, hs0⟩ : ∃ s0, s = s0 := ⟨_, rfl⟩
  obtain ⟨x0, hx0⟩ : ∃ x0, x = x0 := ⟨_, rfl⟩
  obtain ⟨y0, hy0⟩ : ∃ y0, y = y0 := ⟨_, rfl⟩
  rw [hs0, hx0, hy0] at HNO HYES HR HJO
  clear hs hx hy hq hp1 hp2 hR hjo hs0 hx0 hy0
  obtain ⟨k, A, c, l⟩ := s
  obtain ⟨n, m, sA, sc, ss, cA, cc, cs, vA, vc, vs⟩ := x
  obtain ⟨n', m', sA', sc', ss', cA', cc', cs', vA', vc', vs'⟩ := y
  simp only [S2.val_mk, val_mk] at H1 H2 HJ
  simp only [S2.val_mk, val_mk]
  obtain ⟨V, hV⟩ : ∃ V, (((w.alloc (.cells #[.int .i64 k, .slice A l.length c] 37)).alloc (.cells #[.int .u64 n, .int .u64 m, .slice sA ss.length sc, .slice cA cs.length cc, .slice vA vs.length vc] 29)).alloc (.cells #[.int .u64 n', .int .u64 m', .slice sA' ss'.length sc', .slice cA' cs'.length cc', .slice vA' vs'.length vc'] 29)).alloc (.cells #[.int .u64 0, .int .u64 0, .slice none 0 0, .slice none 0 0, .slice none 0 0] 29) = V := ⟨_, rfl⟩
  obtain ⟨q3, q4, q5, q6, hbV, hs0⟩ := blk4 hV
  have hsV : w.heap.size + 4 ≤ V.heap.size := by omega
  clear hs0
  have e0 : V.cell? ⟨w.heap.size, 0, none⟩ = some (.int .i64 k) := blk_cell q3 0 _ rfl
  have e1 : V.cell? ⟨w.heap.size, 1, none⟩ = some (.slice A l.length c) := blk_cell q3 1 _ rfl
  have a0 : V.cell? ⟨w.heap.size + 1, 0, none⟩ = some (.int .u64 n) := blk_cell q4 0 _ rfl
  have a1 : V.cell? ⟨w.heap.size + 1, 1, none⟩ = some (.int .u64 m) := blk_cell q4 1 _ rfl
  have a2 : V.cell? ⟨w.heap.size + 1, 2, none⟩ = some (.slice sA ss.length sc) := blk_cell q4 2 _ rfl
  have a3 : V.cell? ⟨w.heap.size + 1, 3, none⟩ = some (.slice cA cs.length cc) := blk_cell q4 3 _ rfl
  have a4 : V.cell? ⟨w.heap.size + 1, 4, none⟩ = some (.slice vA vs.length vc) := blk_cell q4 4 _ rfl
  have b0 : V.cell? ⟨w.heap.size + 1 + 1, 0, none⟩ = some (.int .u64 n') := blk_cell q5 0 _ rfl
  have b1 : V.cell? ⟨w.heap.size + 1 + 1, 1, none⟩ = some (.int .u64 m') := blk_cell q5 1 _ rfl
  have b2 : V.cell? ⟨w.heap.size + 1 + 1, 2, none⟩ = some (.slice sA' ss'.length sc') := blk_cell q5 2 _ rfl
  have b3 : V.cell? ⟨w.heap.size + 1 + 1, 3, none⟩ = some (.slice cA' cs'.length cc') := blk_cell q5 3 _ rfl
  have b4 : V.cell? ⟨w.heap.size + 1 + 1, 4, none⟩ = some (.slice vA' vs'.length vc') := blk_cell q5 4 _ rfl
  go_enter Tryz.func24, Tryz.ntmps24
  go_wp2_with fail
  refine (H1.out V hbV).mono ?_
  rintro e V1 ⟨rfl, hb1⟩
  have hbV1 := hbV.trans (hb1.mono hbV.size)
  have hs1 := hb1.size
  replace q3 := q3.below hb1
  replace q4 := q4.below hb1
  replace q5 := q5.below hb1
  replace q6 := q6.below hb1
  clear e0 e1 a0 a1 a2 a3 a4 b0 b1 b2 b3 b4 hV H1
  have e0 : V1.cell? ⟨w.heap.size, 0, none⟩ = some (.int .i64 k) := blk_cell q3 0 _ rfl
  have e1 : V1.cell? ⟨w.heap.size, 1, none⟩ = some (.slice A l.length c) := blk_cell q3 1 _ rfl
  have a0 : V1.cell? ⟨w.heap.size + 1, 0, none⟩ = some (.int .u64 n) := blk_cell q4 0 _ rfl
  have a1 : V1.cell? ⟨w.heap.size + 1, 1, none⟩ = some (.int .u64 m) := blk_cell q4 1 _ rfl
  have a2 : V1.cell? ⟨w.heap.size + 1, 2, none⟩ = some (.slice sA ss.length sc) := blk_cell q4 2 _ rfl
  have a3 : V1.cell? ⟨w.heap.size + 1, 3, none⟩ = some (.slice cA cs.length cc) := blk_cell q4 3 _ rfl
  have a4 : V1.cell? ⟨w.heap.size + 1, 4, none⟩ = some (.slice vA vs.length vc) := blk_cell q4 4 _ rfl
  have b0 : V1.cell? ⟨w.heap.size + 1 + 1, 0, none⟩ = some (.int .u64 n') := blk_cell q5 0 _ rfl
  have b1 : V1.cell? ⟨w.heap.size + 1 + 1, 1, none⟩ = some (.int .u64 m') := blk_cell q5 1 _ rfl
  have b2 : V1.cell? ⟨w.heap.size + 1 + 1, 2, none⟩ = some (.slice sA' ss'.length sc') := blk_cell q5 2 _ rfl
  have b3 : V1.cell? ⟨w.heap.size + 1 + 1, 3, none⟩ = some (.slice cA' cs'.length cc') := blk_cell q5 3 _ rfl
  have b4 : V1.cell? ⟨w.heap.size + 1 + 1, 4, none⟩ = some (.slice vA' vs'.length vc') := blk_cell q5 4 _ rfl
  cases p1 with
  | false =>
    clear e0 e1 a0 a1 a2 a3 a4 b0 b1 b2 b3 b4
    have d0 : V1.cell? ⟨w.heap.size + 1 + 1 + 1, 0, none⟩ = some (.int .u64 0) := blk_cell q6 0 _ rfl
    have d1 : V1.cell? ⟨w.heap.size + 1 + 1 + 1, 1, none⟩ = some (.int .u64 0) := blk_cell q6 1 _ rfl
    have d2 : V1.cell? ⟨w.heap.size + 1 + 1 + 1, 2, none⟩ = some (.slice none 0 0) := blk_cell q6 2 _ rfl
    have d3 : V1.cell? ⟨w.heap.size + 1 + 1 + 1, 3, none⟩ = some (.slice none 0 0) := blk_cell q6 3 _ rfl
    have d4 : V1.cell? ⟨w.heap.size + 1 + 1 + 1, 4, none⟩ = some (.slice none 0 0) := blk_cell q6 4 _ rfl
    have f0 := blk_frozen q6 0
    have f1 := blk_frozen q6 1
    have f2 := blk_frozen q6 2
    have f3 := blk_frozen q6 3
    have f4 := blk_frozen q6 4
    go_wp2_with fail
    refine bodyPost_ret (results_cv rfl _ _ (w.heap.size + 1 + 1 + 1) (.int .u64 0) (.int .u64 0) (.slice none 0 0) (.slice none 0 0) (.slice none 0 0) rfl (blk_cell (set5_blk q6) 0 _ rfl) (blk_cell (set5_blk q6) 1 _ rfl) (blk_cell (set5_blk q6) 2 _ rfl) (blk_cell (set5_blk q6) 3 _ rfl) (blk_cell (set5_blk q6) 4 _ rfl)) rfl ?_
    rw [← HR.out, HNO.out (by simp)]
    exact .inr ⟨14, rfl, rfl, set5_bel hbV1 (by omega)⟩
  | true =>
    go_wp2_with fail
    refine (H2.out V1 hbV1).mono ?_
    rintro e V2 ⟨rfl, hb2⟩
    have hbV2 := hbV1.trans (hb2.mono hbV1.size)
    have hs2 := hb2.size
    replace q3 := q3.below hb2
    replace q4 := q4.below hb2
    replace q5 := q5.below hb2
    replace q6 := q6.below hb2
    clear e0 e1 a0 a1 a2 a3 a4 b0 b1 b2 b3 b4 H2
    have e0 : V2.cell? ⟨w.heap.size, 0, none⟩ = some (.int .i64 k) := blk_cell q3 0 _ rfl
    have e1 : V2.cell? ⟨w.heap.size, 1, none⟩ = some (.slice A l.length c) := blk_cell q3 1 _ rfl
    have a0 : V2.cell? ⟨w.heap.size + 1, 0, none⟩ = some (.int .u64 n) := blk_cell q4 0 _ rfl
    have a1 : V2.cell? ⟨w.heap.size + 1, 1, none⟩ = some (.int .u64 m) := blk_cell q4 1 _ rfl
    have a2 : V2.cell? ⟨w.heap.size + 1, 2, none⟩ = some (.slice sA ss.length sc) := blk_cell q4 2 _ rfl
    have a3 : V2.cell? ⟨w.heap.size + 1, 3, none⟩ = some (.slice cA cs.length cc) := blk_cell q4 3 _ rfl
    have a4 : V2.cell? ⟨w.heap.size + 1, 4, none⟩ = some (.slice vA vs.length vc) := blk_cell q4 4 _ rfl
    have b0 : V2.cell? ⟨w.heap.size + 1 + 1, 0, none⟩ = some (.int .u64 n') := blk_cell q5 0 _ rfl
    have b1 : V2.cell? ⟨w.heap.size + 1 + 1, 1, none⟩ = some (.int .u64 m') := blk_cell q5 1 _ rfl
    have b2 : V2.cell? ⟨w.heap.size + 1 + 1, 2, none⟩ = some (.slice sA' ss'.length sc') := blk_cell q5 2 _ rfl
    have b3 : V2.cell? ⟨w.heap.size + 1 + 1, 3, none⟩ = some (.slice cA' cs'.length cc') := blk_cell q5 3 _ rfl
    have b4 : V2.cell? ⟨w.heap.size + 1 + 1, 4, none⟩ = some (.slice vA' vs'.length vc') := blk_cell q5 4 _ rfl
    cases p2 with
    | false =>
      clear e0 e1 a0 a1 a2 a3 a4 b0 b1 b2 b3 b4
      have d0 : V2.cell? ⟨w.heap.size + 1 + 1 + 1, 0, none⟩ = some (.int .u64 0) := blk_cell q6 0 _ rfl
      have d1 : V2.cell? ⟨w.heap.size + 1 + 1 + 1, 1, none⟩ = some (.int .u64 0) := blk_cell q6 1 _ rfl
      have d2 : V2.cell? ⟨w.heap.size + 1 + 1 + 1, 2, none⟩ = some (.slice none 0 0) := blk_cell q6 2 _ rfl
      have d3 : V2.cell? ⟨w.heap.size + 1 + 1 + 1, 3, none⟩ = some (.slice none 0 0) := blk_cell q6 3 _ rfl
      have d4 : V2.cell? ⟨w.heap.size + 1 + 1 + 1, 4, none⟩ = some (.slice none 0 0) := blk_cell q6 4 _ rfl
      have f0 := blk_frozen q6 0
      have f1 := blk_frozen q6 1
      have f2 := blk_frozen q6 2
      have f3 := blk_frozen q6 3
      have f4 := blk_frozen q6 4
      go_wp2_with fail
      refine bodyPost_ret (results_cv rfl _ _ (w.heap.size + 1 + 1 + 1) (.int .u64 0) (.int .u64 0) (.slice none 0 0) (.slice none 0 0) (.slice none 0 0) rfl (blk_cell (set5_blk q6) 0 _ rfl) (blk_cell (set5_blk q6) 1 _ rfl) (blk_cell (set5_blk q6) 2 _ rfl) (blk_cell (set5_blk q6) 3 _ rfl) (blk_cell (set5_blk q6) 4 _ rfl)) rfl ?_
      rw [← HR.out, HNO.out (by simp)]
      exact .inr ⟨14, rfl, rfl, set5_bel hbV2 (by omega)⟩
    | true =>
      go_wp2_with fail
      refine (HJ.out (by simp) (by simp) V2 hbV2).mono ?_
      rintro e U hr
      obtain ⟨⟨zn, zm, zsA, zsc, zss, zcA, zcc, zcs, zvA, zvc, zvs⟩, ev, rfl, hzi, hbU, hcase⟩ := retJ_case hr
      simp only [val_mk]
      have HZ := Lib.hid hzi
      have HC := Lib.hid hcase
      have q6U := q6.below (W' := U) hbU
      clear hr hzi hcase e0 e1 a0 a1 a2 a3 a4 b0 b1 b2 b3 b4 q3 q4 q5
      have d0 : U.cell? ⟨w.heap.size + 1 + 1 + 1, 0, none⟩ = some (.int .u64 0) := blk_cell q6U 0 _ rfl
      have d1 : U.cell? ⟨w.heap.size + 1 + 1 + 1, 1, none⟩ = some (.int .u64 0) := blk_cell q6U 1 _ rfl
      have d2 : U.cell? ⟨w.heap.size + 1 + 1 + 1, 2, none⟩ = some (.slice none 0 0) := blk_cell q6U 2 _ rfl
      have d3 : U.cell? ⟨w.heap.size + 1 + 1 + 1, 3, none⟩ = some (.slice none 0 0) := blk_cell q6U 3 _ rfl
      have d4 : U.cell? ⟨w.heap.size + 1 + 1 + 1, 4, none⟩ = some (.slice none 0 0) := blk_cell q6U 4 _ rfl
      have f0 := blk_frozen q6U 0
      have f1 := blk_frozen q6U 1
      have f2 := blk_frozen q6U 2
      have f3 := blk_frozen q6U 3
      have f4 := blk_frozen q6U 4
      go_wp2_with fail
      refine bodyPost_ret (results_cv rfl _ _ (w.heap.size + 1 + 1 + 1) (.int .u64 zn) (.int .u64 zm) (.slice zsA zss.length zsc) (.slice zcA zcs.length zcc) (.slice zvA zvs.length zvc) rfl (blk_cell (set5_blk q6U) 0 _ rfl) (blk_cell (set5_blk q6U) 1 _ rfl) (blk_cell (set5_blk q6U) 2 _ rfl) (blk_cell (set5_blk q6U) 3 _ rfl) (blk_cell (set5_blk q6U) 4 _ rfl)) rfl ?_
      rw [← HR.out]
      refine retK_of_J (HYES.out (by simp) (by simp)) ?_
      rw [HJO.out]
      exact retJ_store hbV2 hbU (by omega) (by omega) HZ.out HC.out
end Go.Proofs.YtdbohojncbeajaaGreat.J5

namespace Go.Proofs.YtdbohojncbeajaaGreat.V4
open Go.RowKit Go.Shelf
open C3 (Tk isC belAl)
open S2 (Sc isT allocB)

attribute [local go_sem] Oper.semAt_some

theorem KN.set {D B : Nat} {W : World} (hD : D < B) (v : Value) : KN D B W (W.setCell ⟨D, 0, none⟩ v) :=
  ⟨by simp, fun b o h1 h2 => (Below.heap_setCell _ _ _ _ (by rcases h2 with ⟨_, h⟩ | h <;> simp only [ne_eq] <;> omega)).trans h1⟩
end Go.Proofs.YtdbohojncbeajaaGreat.V4

namespace Go.Proofs.YtdbohojncbeajaaGreat.V4
open Go.RowKit Go.Shelf
open C3 (Tk isC belAl drewB)
open S2 (Sc isT allocB)

end Go.Proofs.YtdbohojncbeajaaGreat.V4

namespace Go.Proofs.YtdbohojncbeajaaGreat.J5
open Go.RowKit Go.Shelf
open C3 (Tk In belAl allocB)
open S2 (Sc Tr isT)
open V4 (Va Vl Ck isV botT LiesC cellsV val_mk er_mk)

/-- What it answers, as one. -/
theorem retK_case {W : World} {o : Except Int Va} {e : Ending} {W' : World} (h : RetK W o e W') : ∃ (x : Vl) (ev : Value), e = .returned (.tuple #[x.val, ev]) ∧ x.Inp (fun b => W.heap.size ≤ b ∧ b < W'.heap.size) W' ∧ Below W.heap.size W W' ∧ ((o = .ok x.er ∧ ev = .nilIface) ∨ (∃ n, o = .error n ∧ x = vlZ ∧ ev = errV n)) := by
  rcases h with ⟨x, ho, rfl, hi, hb⟩ | ⟨n, ho, rfl, hb⟩
  · exact ⟨x, _, rfl, hi, hb, .inl ⟨ho, rfl⟩⟩
  · exact ⟨vlZ, _, rfl, V4.inp_zero _ _, hb, .inr ⟨n, ho, rfl, rfl⟩⟩

end Go.Proofs.YtdbohojncbeajaaGreat.J5
