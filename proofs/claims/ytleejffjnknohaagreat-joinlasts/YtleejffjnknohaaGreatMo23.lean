/- What join.join does, whole; pairs, if joinPairs does what it should. No condition but that what it takes lies in memory, values of the schema, or nothing. What slices.Equal does of texts, slices.EqualFunc of clocks. No condition but that they lie in memory. What value.alike does. No condition but that the two values lie in memory. What value.Same, value.Is, value.None do. No condition but that what is handed in lies in memory. What join.Join does; pairs, if joinPairs does what it should. No condition but that what it takes lies in memory. What value.Size does. No condition but that the value lies in memory. What value.bottom and value.Bottom do. No condition but that the schema lies in memory. -/
import Derived.Test.YtleejffjnknohaaGreatMo22
import Derived.Test.YtleejffjnknohaaGreatMo20
import Derived.Deep.DeepCutAuto
namespace Go.Proofs.YtleejffjnknohaaGreat.J5
open Go.RowKit Go.Shelf
open C3 (Tk In belAl allocB)
open S2 (Sc Tr isT)
open V4 (Va Vl Ck isV botT LiesC val_mk er_mk isT_le)

/-- No pair in it. -/
inductive NoP : Tr → Prop
  | mk (k : Int) (l : List Tr) : k ≠ 5 → (∀ x ∈ l, NoP x) → NoP (.mk k l)

/-- joinPairs does what it should. -/
def PairsDo : Prop := ∀ (A : Option Addr) (c : Nat) (a b : Sc) (x y : Vl) (f g : Va → Va → Option Va) (w : World), S2.LiesS w.heap.size w A [a, b] → a.In w.heap.size w → b.In w.heap.size w → x.In w → y.In w → (x.vs = [] ∨ x.vs.length = 2) → (y.vs = [] ∨ y.vs.length = 2) →
  (∀ W : World, Below w.heap.size w W → Calls Tryz.prog 29 #[a.val, (halfV x 0).val, (halfV y 0).val] W (RetJ W (f (halfE x.er 0) (halfE y.er 0)))) →
  (∀ W : World, Below w.heap.size w W → Calls Tryz.prog 29 #[b.val, (halfV x 1).val, (halfV y 1).val] W (RetJ W (g (halfE x.er 1) (halfE y.er 1)))) →
  Calls Tryz.prog 45 #[.slice A 2 c, x.val, y.val] w (RetJ w (pairE f g x.er y.er))

set_option maxRecDepth 100000 in
set_option maxHeartbeats 1000000 in
theorem join_5 (HP : PairsDo) (A : Option Addr) (c : Nat) (a b : Sc) (x y : Vl) (f g : Va → Va → Option Va) (w : World) (hs : S2.LiesS w.heap.size w A [a, b]) (ha : a.In w.heap.size w) (hb : b.In w.heap.size w) (hx : x.In w) (hy : y.In w) (lx : x.vs = [] ∨ x.vs.length = 2) (ly : y.vs = [] ∨ y.vs.length = 2)
    (hf : ∀ W : World, Below w.heap.size w W → Calls Tryz.prog 29 #[a.val, (halfV x 0).val, (halfV y 0).val] W (RetJ W (f (halfE x.er 0) (halfE y.er 0))))
    (hg : ∀ W : World, Below w.heap.size w W → Calls Tryz.prog 29 #[b.val, (halfV x 1).val, (halfV y 1).val] W (RetJ W (g (halfE x.er 1) (halfE y.er 1)))) :
    Calls Tryz.prog 29 #[(Sc.mk 5 A c [a, b]).val, x.val, y.val] w (RetJ w (pairE f g x.er y.er)) := by
  have HJ := Lib.hid (fun W (hb' : Below w.heap.size w W) => HP A c a b x y f g W ((hs.below hb').up hb'.size) (ha.later hb') (hb.later hb') (hx.later hb') (hy.later hb') lx ly (fun W2 h2 => hf W2 (hb'.trans (h2.mono hb'.size))) (fun W2 h2 => hg W2 (hb'.trans (h2.mono hb'.size))))
  obtain ⟨res, hres⟩ : ∃ res, pairE f g x.er y.er = res := ⟨_, rfl⟩
  rw [hres] at HJ
  rw [hres]
  clear hx hy hres hf hg hs ha hb lx ly HP
  obtain ⟨n, m, sA, sc, ss, cA, cc, cs, vA, vc, vs⟩ := x
  obtain ⟨n', m', sA', sc', ss', cA', cc', cs', vA', vc', vs'⟩ := y
  simp only [val_mk] at HJ
  simp only [S2.val_mk, val_mk, List.length_cons, List.length_nil, Nat.zero_add, Nat.reduceAdd]
  obtain ⟨V, hV⟩ : ∃ V, (((w.alloc (.cells #[.int .i64 5, .slice A 2 c] 24)).alloc (.cells #[.int .u64 n, .int .u64 m, .slice sA ss.length sc, .slice cA cs.length cc, .slice vA vs.length vc] 32)).alloc (.cells #[.int .u64 n', .int .u64 m', .slice sA' ss'.length sc', .slice cA' cs'.length cc', .slice vA' vs'.length vc'] 32)).alloc (.cells #[.int .u64 0, .int .u64 0, .slice none 0 0, .slice none 0 0, .slice none 0 0] 32) = V := ⟨_, rfl⟩
  obtain ⟨q3, q4, q5, q6, hbV, hs0⟩ := blk4 hV
  have hsV : w.heap.size + 4 ≤ V.heap.size := by omega
  clear hs0
  have e0 : V.cell? ⟨w.heap.size, 0, none⟩ = some (.int .i64 5) := blk_cell q3 0 _ rfl
  have e1 : V.cell? ⟨w.heap.size, 1, none⟩ = some (.slice A 2 c) := blk_cell q3 1 _ rfl
  have a0 : V.cell? ⟨w.heap.size + 1, 0, none⟩ = some (.int .u64 n) := blk_cell q4 0 _ rfl
  have a1 : V.cell? ⟨w.heap.size + 1, 1, none⟩ = some (.int .u64 m) := blk_cell q4 1 _ rfl
  have a2 : V.cell? ⟨w.heap.size + 1, 2, none⟩ = some (.slice sA ss.length sc) := blk_cell q4 2 _ rfl
  have a3 : V.cell? ⟨w.heap.size + 1, 3, none⟩ = some (.slice cA cs.length cc) := blk_cell q4 3 _ rfl
  have a4 : V.cell? ⟨w.heap.size + 1, 4, none⟩ = some (.slice vA vs.length vc) := blk_cell q4 4 _ rfl
  have b0 : V.cell? ⟨w.heap.size + 1 + 1, 0, none⟩ = some (.int .u64 n') := blk_cell q5 0 _ rfl
  have b1 : V.cell? ⟨w.heap.size + 1 + 1, 1, none⟩ = some (.int .u64 m') := blk_cell q5 1 _ rfl
  have b2 : V.cell? ⟨w.heap.size + 1 + 1, 2, none⟩ = some (.slice sA' ss'.length sc') := blk_cell q5 2 _ rfl
  have b3 : V.cell? ⟨w.heap.size + 1 + 1, 3, none⟩ = some (.slice cA' cs'.length cc') := blk_cell q5 3 _ rfl
  have b4 : V.cell? ⟨w.heap.size + 1 + 1, 4, none⟩ = some (.slice vA' vs'.length vc') := blk_cell q5 4 _ rfl
  go_enter Tryz.func29, Tryz.ntmps29
  go_wp2_with fail
  refine (HJ.out V hbV).mono ?_
  rintro e U hr
  obtain ⟨⟨zn, zm, zsA, zsc, zss, zcA, zcc, zcs, zvA, zvc, zvs⟩, ev, rfl, hzi, hbU, hcase⟩ := retJ_case hr
  simp only [val_mk]
  have HZ := Lib.hid hzi
  have HC := Lib.hid hcase
  have q6U := q6.below (W' := U) hbU
  clear hr hzi hcase e0 e1 a0 a1 a2 a3 a4 b0 b1 b2 b3 b4 q3 q4 q5 hV
  have d0 : U.cell? ⟨w.heap.size + 1 + 1 + 1, 0, none⟩ = some (.int .u64 0) := blk_cell q6U 0 _ rfl
  have d1 : U.cell? ⟨w.heap.size + 1 + 1 + 1, 1, none⟩ = some (.int .u64 0) := blk_cell q6U 1 _ rfl
  have d2 : U.cell? ⟨w.heap.size + 1 + 1 + 1, 2, none⟩ = some (.slice none 0 0) := blk_cell q6U 2 _ rfl
  have d3 : U.cell? ⟨w.heap.size + 1 + 1 + 1, 3, none⟩ = some (.slice none 0 0) := blk_cell q6U 3 _ rfl
  have d4 : U.cell? ⟨w.heap.size + 1 + 1 + 1, 4, none⟩ = some (.slice none 0 0) := blk_cell q6U 4 _ rfl
  have f0 := blk_frozen q6U 0
  have f1 := blk_frozen q6U 1
  have f2 := blk_frozen q6U 2
  have f3 := blk_frozen q6U 3
  have f4 := blk_frozen q6U 4
  go_wp2_with fail
  refine bodyPost_ret (results_cv rfl _ _ (w.heap.size + 1 + 1 + 1) (.int .u64 zn) (.int .u64 zm) (.slice zsA zss.length zsc) (.slice zcA zcs.length zcc) (.slice zvA zvs.length zvc) rfl (blk_cell (set5_blk q6U) 0 _ rfl) (blk_cell (set5_blk q6U) 1 _ rfl) (blk_cell (set5_blk q6U) 2 _ rfl) (blk_cell (set5_blk q6U) 3 _ rfl) (blk_cell (set5_blk q6U) 4 _ rfl)) rfl ?_
  exact retJ_store hbV hbU (by omega) (by omega) HZ.out HC.out

theorem okV_leaf {n : Nat} {t : Tr} {x : Va} (hn : n ≤ 16) (h : isT n t = true) (h5 : t.k ≠ 5) (o : OkV t x) : isV t x = true := o.elim id fun e => e ▸ isV_zero hn h h5

/-- What it does, whole: pairs, where Q says that joinPairs does what it should. -/
theorem join_any (Q : Prop) (HP : Q → PairsDo) : ∀ (s : Sc) (n : Nat), n ≤ 16 → isT n s.er = true → (Q ∨ NoP s.er) → ∀ (x y : Vl) (w : World), s.In w.heap.size w → x.In w → y.In w → OkV s.er x.er → OkV s.er y.er →
    Calls Tryz.prog 29 #[s.val, x.val, y.val] w (RetJ w (joinE s.er x.er y.er)) := by
  intro s
  induction s using S2.Sc.ind with
  | h k A c l ih =>
    intro n hn ht hq x y w hs hx hy ox oy
    rw [S2.er_mk] at ht hq ox oy ⊢
    obtain ⟨m, hm, hc⟩ := isT_cases ht
    rcases hc with ⟨k', hk, e⟩ | ⟨k', a', hk, e, ha⟩ | ⟨a', b', e, ha, hb_⟩
    · obtain ⟨rfl, hl⟩ := (Tr.mk.injEq _ _ _ _).mp e
      obtain rfl : l = [] := List.map_eq_nil_iff.1 hl
      have h5 : (Tr.mk k []).k ≠ 5 := by simp only [Tr.k]; omega
      have vx := okV_leaf hn ht h5 ox
      have vy := okV_leaf hn ht h5 oy
      simp only [List.map_nil] at vx vy ⊢
      rcases hk with rfl | rfl | rfl | rfl | rfl
      · rw [joinE, if_neg (by decide), if_neg (by decide), if_neg (by decide)]; exact join_1 A c x y w hx hy
      · rw [joinE, if_neg (by decide), if_neg (by decide), if_neg (by decide)]; exact join_2 A c x y w hx hy
      · rw [joinE, if_pos rfl]
        obtain ⟨s1, e1, a1, a2, _⟩ := isV_set.1 vx
        obtain ⟨s2, e2, b1, b2, _⟩ := isV_set.1 vy
        exact join_3 A c x y w hx hy (by rw [e1]; exact a1) (by rw [e2]; exact b1) (by rw [e1]; exact Nat.le_trans a2 (by decide)) (by rw [e2]; exact Nat.le_trans b2 (by decide))
      · rw [joinE, if_neg (by decide), if_pos rfl]; exact join_6 A c x y w hx hy
      · rw [joinE, if_neg (by decide), if_neg (by decide), if_pos rfl]
        have cl : ∀ {x : Va}, isV (.mk 7 []) x = true → x.c.length ≤ 1 ∧ ∀ k ∈ x.c, k.length ≤ 40 := fun {x} h => by
          rcases isV_clock.1 h with rfl | ⟨c, rfl, h1, _⟩
          · exact ⟨by simp [Va.zero, Va.c], fun k hk => by cases hk⟩
          · refine ⟨by simp [Va.c], fun k hk => ?_⟩
            simp only [Va.c, List.mem_singleton] at hk
            subst hk
            exact (C3.isC_out h1).1
        refine join_7 A c x y w hx hy (cl vx).1 (cl vy).1 fun k hk => ?_
        rcases List.mem_append.1 hk with h | h
        · exact (cl vx).2 k h
        · exact (cl vy).2 k h
    · obtain ⟨rfl, hl⟩ := (Tr.mk.injEq _ _ _ _).mp e
      obtain ⟨a, rfl, rfl⟩ : ∃ a, l = [a] ∧ a.er = a' := by
        match l, hl with
        | [a], hl => exact ⟨a, rfl, by simpa using hl⟩
      have h5 : (Tr.mk k [a.er]).k ≠ 5 := by simp only [Tr.k]; omega
      simp only [List.map_cons, List.map_nil] at ht hq ox oy ⊢
      have vx := okV_leaf hn ht h5 ox
      have vy := okV_leaf hn ht h5 oy
      obtain ⟨hls, _, _, hall⟩ := hs.out
      have hqa : Q ∨ NoP a.er := hq.imp id fun h => by cases h with | mk _ _ _ h => exact h _ (by simp)
      have hin := hall a (by simp)
      have hj : ∀ (X Y : Vl), X.In w → Y.In w → (∀ u ∈ X.vs, isV a.er u.er = true) → (∀ u ∈ Y.vs, isV a.er u.er = true) → ∀ u v : Vl, (u ∈ X.vs ∨ u = vlZ) → (v ∈ Y.vs ∨ v = vlZ) → ∀ W : World, Below w.heap.size w W → Calls Tryz.prog 29 #[a.val, u.val, v.val] W (RetJ W (joinE a.er u.er v.er)) := by
        intro X Y hX hY vX vY u v hu hv W hb
        have up : ∀ {X u : Vl}, X.In w → (∀ u ∈ X.vs, isV a.er u.er = true) → (u ∈ X.vs ∨ u = vlZ) → u.In W ∧ OkV a.er u.er := fun {X u} hX vX hu => by
          rcases hu with hu | rfl
          · obtain ⟨n, m, sA, sc, ss, cA, cc, cs, vA, vc, vs⟩ := X
            exact ⟨(hX.out.vk u hu).later hb, .inl (vX u hu)⟩
          · exact ⟨V4.inp_zero _ _, .inr vlZ_er⟩
        exact ih a (by simp) m (by omega) ha hqa u v W (hin.later hb) (up hX vX hu).1 (up hY vY hv).1 (up hX vX hu).2 (up hY vY hv).2
      have vse : ∀ X : Vl, X.er.v = X.vs.map Vl.er := fun X => by cases X; rw [er_mk]; rfl
      rcases hk with rfl | rfl
      · rw [joinE, if_pos rfl]
        have fact : ∀ {X : Vl}, isV (.mk 4 [a.er]) X.er = true → X.er.s.length = X.vs.length ∧ ∀ u ∈ X.vs, isV a.er u.er = true := fun {X} h => by
          obtain ⟨s, v, e, _, h2, _, _, h5⟩ := isV_map.1 h
          have ev := vse X
          rw [e] at ev ⊢
          simp only [Va.v, Va.s] at ev ⊢
          refine ⟨by rw [h2, ev, List.length_map], fun u hu => (h5 _ (by rw [ev]; exact List.mem_map.2 ⟨u, hu, rfl⟩)).1⟩
        exact join_4 A c a x y _ w hls hx hy (fact vx).1 (fact vy).1 (hj x y hx hy (fact vx).2 (fact vy).2)
      · rw [joinE, if_neg (by decide)]
        have fact : ∀ {X : Vl}, isV (.mk 8 [a.er]) X.er = true → X.er.c.length = X.vs.length ∧ X.vs.length ≤ 1000 ∧ (∀ k ∈ X.er.c, C3.Asc k ∧ k.length ≤ 1000) ∧ ∀ u ∈ X.vs, isV a.er u.er = true := fun {X} h => by
          obtain ⟨s, v, e, h2, h3, _, h4, h5⟩ := isV_cause.1 h
          have ev := vse X
          rw [e] at ev ⊢
          simp only [Va.v, Va.c] at ev ⊢
          have hlen : X.vs.length = v.length := by rw [ev, List.length_map]
          refine ⟨by omega, by omega, fun k hk => ?_, fun u hu => h5 _ (by rw [ev]; exact List.mem_map.2 ⟨u, hu, rfl⟩)⟩
          have := C3.isC_out (h4 k hk)
          exact ⟨this.2.1, by omega⟩
        refine join_8 A c a x y _ w hls hx hy (fact vx).1 (fact vy).1 (fact vx).2.1 (fact vy).2.1 (fun k hk => ?_) (hj x y hx hy (fact vx).2.2.2 (fact vy).2.2.2)
        rcases List.mem_append.1 hk with h | h
        · exact (fact vx).2.2.1 k h
        · exact (fact vy).2.2.1 k h
    · obtain ⟨rfl, hl⟩ := (Tr.mk.injEq _ _ _ _).mp e
      obtain ⟨a, b, rfl, rfl, rfl⟩ : ∃ a b, l = [a, b] ∧ a.er = a' ∧ b.er = b' := by
        match l, hl with
        | [a, b], hl => simp at hl; exact ⟨a, b, rfl, hl.1, hl.2⟩
      simp only [List.map_cons, List.map_nil] at ht hq ox oy ⊢
      rcases hq with hq | hq
      · obtain ⟨hls, _, _, hall⟩ := hs.out
        have ina := hall a (by simp)
        have inb := hall b (by simp)
        have fact : ∀ {X : Vl}, X.In w → OkV (.mk 5 [a.er, b.er]) X.er → (X.vs = [] ∨ X.vs.length = 2) ∧ (∀ i, (halfV X i).In w) ∧ OkV a.er (halfV X 0).er ∧ OkV b.er (halfV X 1).er := fun {X} hX o => by
          have hin : ∀ i, (halfV X i).In w := fun i => by
            obtain ⟨n, m, sA, sc, ss, cA, cc, cs, vA, vc, vs⟩ := X
            unfold halfV
            simp only [V4.Vl.vs]
            cases e : vs[i]? with
            | none => exact V4.inp_zero _ _
            | some u => exact hX.out.vk u (List.mem_of_getElem? e)
          have vse : X.er.v = X.vs.map Vl.er := by cases X; rw [er_mk]; rfl
          rw [halfV_er, halfV_er]
          rcases o with o | o
          · obtain ⟨p, q, e, h1, h2⟩ := isV_pair.1 o
            rw [e] at vse ⊢
            refine ⟨.inr ?_, hin, .inl h1, .inl h2⟩
            have := congrArg List.length vse
            simpa [Va.v] using this.symm
          · rw [o] at vse ⊢
            refine ⟨.inl ?_, hin, .inr rfl, .inr rfl⟩
            exact List.map_eq_nil_iff.1 vse.symm
        obtain ⟨lx, ix, ox0, ox1⟩ := fact hx ox
        obtain ⟨ly, iy, oy0, oy1⟩ := fact hy oy
        rw [joinE]
        refine join_5 (HP hq) A c a b x y _ _ w hls ina inb hx hy lx ly (fun W hb => ?_) (fun W hb => ?_)
        · rw [← halfV_er, ← halfV_er]
          exact ih a (by simp) m (by omega) ha (.inl hq) _ _ W (ina.later hb) ((ix 0).later hb) ((iy 0).later hb) ox0 oy0
        · rw [← halfV_er, ← halfV_er]
          exact ih b (by simp) m (by omega) hb_ (.inl hq) _ _ W (inb.later hb) ((ix 1).later hb) ((iy 1).later hb) ox1 oy1
      · cases hq with | mk _ _ h _ => exact absurd rfl h
end Go.Proofs.YtleejffjnknohaaGreat.J5

namespace Go.Proofs.YtleejffjnknohaaGreat.V4
open Go.RowKit
open C3 (Tk isC belAl)

theorem eq_all {l l' : List Str} {i : Nat} (h0 : l.take i = l'.take i) (hi : l.length ≤ i) (hi' : l'.length ≤ i) : decide (l = l') = true := by
  rw [List.take_of_length_le hi, List.take_of_length_le hi'] at h0
  exact decide_eq_true h0
theorem ne_at {l l' : List Str} {i : Nat} {x x' : Str} (hx : l[i]? = some x) (hx' : l'[i]? = some x') (h : x ≠ x') : decide (l = l') = false := decide_eq_false fun e => h (by rw [e, hx'] at hx; cases hx; rfl)
theorem ne_len {l l' : List Str} (h : l.length ≠ l'.length) : decide (l = l') = false := decide_eq_false fun e => h (by rw [e])
theorem take_eq_succ {l l' : List Str} {i : Nat} {x : Str} (h0 : l.take i = l'.take i) (hx : l[i]? = some x) (hx' : l'[i]? = some x) : l.take (i + 1) = l'.take (i + 1) := by
  obtain ⟨h1, e1⟩ := List.getElem?_eq_some_iff.1 hx
  obtain ⟨h2, e2⟩ := List.getElem?_eq_some_iff.1 hx'
  rw [List.take_succ_eq_append_getElem h1, List.take_succ_eq_append_getElem h2, h0, e1, e2]

end Go.Proofs.YtleejffjnknohaaGreat.V4

namespace Go.Proofs.YtleejffjnknohaaGreat.V4
open Go.RowKit Go.Shelf
open C3 (Tk isC belAl)
open S2 (allocB)

end Go.Proofs.YtleejffjnknohaaGreat.V4

namespace Go.Proofs.YtleejffjnknohaaGreat.V4
open Go.RowKit Go.Shelf
open C3 (Tk isC belAl)
open S2 (Sc isT allocB)

theorem Is_any (s : Sc) (v : Vl) (w : World) (hs : s.In w.heap.size w) (hv : v.In w) : Calls Tryz.prog 28 #[s.val, v.val] w (RetV w (.bool (isT 16 s.er && isV s.er v.er))) := by
  have := Is_walk s v w hs hv
  cases h : isT 16 s.er with
  | false => rw [h] at this; exact this
  | true => rw [h, rightAll_isV v s 16 (Nat.le_refl _) h] at this; exact this

end Go.Proofs.YtleejffjnknohaaGreat.V4

namespace Go.Proofs.YtleejffjnknohaaGreat.J5
open Go.RowKit Go.Shelf
open C3 (Tk In belAl allocB)
open S2 (Sc Tr isT)
open V4 (Va Vl Ck isV botT LiesC val_mk er_mk isT_le)

/-- A call that answers a value in new memory, and no error; or zero and the error. -/
def RetK (w : World) (o : Except Int Va) (e : Ending) (w' : World) : Prop :=
  (∃ x : Vl, o = .ok x.er ∧ e = .returned (.tuple #[x.val, .nilIface]) ∧ x.Inp (fun b => w.heap.size ≤ b ∧ b < w'.heap.size) w' ∧ Below w.heap.size w w') ∨
  (∃ n, o = .error n ∧ e = .returned (.tuple #[vlZ.val, errV n]) ∧ Below w.heap.size w w')
/-- Both together, or the error's number. -/
def joinF (t : Tr) (x y : Va) : Except Int Va := if isT 16 t = true then stepE t x y else .error 14
theorem joinF_no {t : Tr} {x y : Va} (h : (isT 16 t && isV t x) = false ∨ (isT 16 t && isV t y) = false) : joinF t x y = .error 14 := by
  unfold joinF
  split
  · rename_i ht
    rw [ht, Bool.true_and, Bool.true_and] at h
    unfold stepE
    rw [if_neg]
    rintro ⟨h1, h2⟩
    rw [h1, h2] at h
    simp at h
  · rfl
theorem joinF_yes {t : Tr} {x y : Va} (h1 : (isT 16 t && isV t x) = true) (h2 : (isT 16 t && isV t y) = true) : isT 16 t = true ∧ isV t x = true ∧ isV t y = true ∧ joinF t x y = match joinE t x y with | some z => .ok z | none => .error 13 := by
  rw [Bool.and_eq_true] at h1 h2
  refine ⟨h1.1, h1.2, h2.2, ?_⟩
  unfold joinF stepE
  rw [if_pos h1.1, if_pos ⟨h1.2, h2.2⟩]
  cases joinE t x y <;> rfl
theorem retK_of_J {w : World} {t : Tr} {x y : Va} {e : Ending} {w' : World} (hF : joinF t x y = match joinE t x y with | some z => .ok z | none => .error 13) (h : RetJ w (joinE t x y) e w') : RetK w (joinF t x y) e w' := by
  rw [hF]
  rcases h with ⟨z, ho, h⟩ | ⟨ho, h⟩
  · rw [ho]; exact .inl ⟨z, rfl, h⟩
  · rw [ho]; exact .inr ⟨13, rfl, h⟩

set_option maxRecDepth 100000 in
set_option maxHeartbeats 2000000 in
theorem Join_any (Q : Prop) (HP : Q → PairsDo) (s : Sc) (x y : Vl) (w : World) (hs : s.In w.heap.size w) (hx : x.In w) (hy : y.In w) (hq : isT 16 s.er = true → Q ∨ NoP s.er) :
    Calls Tryz.prog 15 #[s.val, x.val, y.val] w (RetK w (joinF s.er x.er y.er)) := by
  obtain ⟨p1, hp1⟩ : ∃ p, (isT 16 s.er && isV s.er x.er) = p := ⟨_, rfl⟩
  obtain ⟨p2, hp2⟩ : ∃ p, (isT 16 s.er && isV s.er y.er) = p := ⟨_, rfl⟩
  have H1 := Lib.hid (fun W (hb : Below w.heap.size w W) => V4.Is_any s x W (hs.later hb) (hx.later hb))
  have H2 := Lib.hid (fun W (hb : Below w.heap.size w W) => V4.Is_any s y W (hs.later hb) (hy.later hb))
  have HJ : Hid (p1 = true → p2 = true → ∀ W, Below w.heap.size w W → Calls Tryz.prog 29 #[s.val, x.val, y.val] W (RetJ W (joinE s.er x.er y.er))) := fun e1 e2 W hb => by
    obtain ⟨h1, h2, h3, _⟩ := joinF_yes (hp1.trans e1) (hp2.trans e2)
    exact join_any Q HP s 16 (Nat.le_refl _) h1 (hq h1) x y W (hs.later hb) (hx.later hb) (hy.later hb) (.inl h2) (.inl h3)
  rw [hp1] at H1
  rw [hp2] at H2
  have HNO : Hid (p1 = false ∨ p2 = false → joinF s.er x.er y.er = .error 14) := fun h => joinF_no (h.imp (fun e => hp1.trans e) (fun e => hp2.trans e))
  have HYES : Hid (p1 = true → p2 = true → joinF s.er x.er y.er = match joinE s.er x.er y.er with | some z => .ok z | none => .error 13) := fun e1 e2 => (joinF_yes (hp1.trans e1) (hp2.trans e2)).2.2.2
  obtain ⟨R, hR⟩ : ∃ R, RetK w (joinF s.er x.er y.er) = R := ⟨_, rfl⟩
  have HR := Lib.hid hR
  rw [hR]
  obtain ⟨jo, hjo⟩ : ∃ jo, joinE s.er x.er y.er = jo := ⟨_, rfl⟩
  rw [hjo] at HJ
  have HJO := Lib.hid hjo
  obtain ⟨s0, hs0⟩ : ∃ s0, s = s0 := ⟨_, rfl⟩
  obtain ⟨x0, hx0⟩ : ∃ x0, x = x0 := ⟨_, rfl⟩
  obtain ⟨y0, hy0⟩ : ∃ y0, y = y0 := ⟨_, rfl⟩
  rw [hs0, hx0, hy0] at HNO HYES HR HJO
  clear hs hx hy hq hp1 hp2 hR hjo hs0 hx0 hy0
  obtain ⟨k, A, c, l⟩ := s
  obtain ⟨n, m, sA, sc, ss, cA, cc, cs, vA, vc, vs⟩ := x
  obtain ⟨n', m', sA', sc', ss', cA', cc', cs', vA', vc', vs'⟩ := y
  simp only [S2.val_mk, val_mk] at H1 H2 HJ
  simp only [S2.val_mk, val_mk]
  obtain ⟨V, hV⟩ : ∃ V, (((w.alloc (.cells #[.int .i64 k, .slice A l.length c] 24)).alloc (.cells #[.int .u64 n, .int .u64 m, .slice sA ss.length sc, .slice cA cs.length cc, .slice vA vs.length vc] 32)).alloc (.cells #[.int .u64 n', .int .u64 m', .slice sA' ss'.length sc', .slice cA' cs'.length cc', .slice vA' vs'.length vc'] 32)).alloc (.cells #[.int .u64 0, .int .u64 0, .slice none 0 0, .slice none 0 0, .slice none 0 0] 32) = V := ⟨_, rfl⟩
  obtain ⟨q3, q4, q5, q6, hbV, hs0⟩ := blk4 hV
  have hsV : w.heap.size + 4 ≤ V.heap.size := by omega
  clear hs0
  have e0 : V.cell? ⟨w.heap.size, 0, none⟩ = some (.int .i64 k) := blk_cell q3 0 _ rfl
  have e1 : V.cell? ⟨w.heap.size, 1, none⟩ = some (.slice A l.length c) := blk_cell q3 1 _ rfl
  have a0 : V.cell? ⟨w.heap.size + 1, 0, none⟩ = some (.int .u64 n) := blk_cell q4 0 _ rfl
  have a1 : V.cell? ⟨w.heap.size + 1, 1, none⟩ = some (.int .u64 m) := blk_cell q4 1 _ rfl
  have a2 : V.cell? ⟨w.heap.size + 1, 2, none⟩ = some (.slice sA ss.length sc) := blk_cell q4 2 _ rfl
  have a3 : V.cell? ⟨w.heap.size + 1, 3, none⟩ = some (.slice cA cs.length cc) := blk_cell q4 3 _ rfl
  have a4 : V.cell? ⟨w.heap.size + 1, 4, none⟩ = some (.slice vA vs.length vc) := blk_cell q4 4 _ rfl
  have b0 : V.cell? ⟨w.heap.size + 1 + 1, 0, none⟩ = some (.int .u64 n') := blk_cell q5 0 _ rfl
  have b1 : V.cell? ⟨w.heap.size + 1 + 1, 1, none⟩ = some (.int .u64 m') := blk_cell q5 1 _ rfl
  have b2 : V.cell? ⟨w.heap.size + 1 + 1, 2, none⟩ = some (.slice sA' ss'.length sc') := blk_cell q5 2 _ rfl
  have b3 : V.cell? ⟨w.heap.size + 1 + 1, 3, none⟩ = some (.slice cA' cs'.length cc') := blk_cell q5 3 _ rfl
  have b4 : V.cell? ⟨w.heap.size + 1 + 1, 4, none⟩ = some (.slice vA' vs'.length vc') := blk_cell q5 4 _ rfl
  go_enter Tryz.func15, Tryz.ntmps15
  go_wp2_with fail
  refine (H1.out V hbV).mono ?_
  rintro e V1 ⟨rfl, hb1⟩
  have hbV1 := hbV.trans (hb1.mono hbV.size)
  have hs1 := hb1.size
  replace q3 := q3.below hb1
  replace q4 := q4.below hb1
  replace q5 := q5.below hb1
  replace q6 := q6.below hb1
  clear e0 e1 a0 a1 a2 a3 a4 b0 b1 b2 b3 b4 hV H1
  have e0 : V1.cell? ⟨w.heap.size, 0, none⟩ = some (.int .i64 k) := blk_cell q3 0 _ rfl
  have e1 : V1.cell? ⟨w.heap.size, 1, none⟩ = some (.slice A l.length c) := blk_cell q3 1 _ rfl
  have a0 : V1.cell? ⟨w.heap.size + 1, 0, none⟩ = some (.int .u64 n) := blk_cell q4 0 _ rfl
  have a1 : V1.cell? ⟨w.heap.size + 1, 1, none⟩ = some (.int .u64 m) := blk_cell q4 1 _ rfl
  have a2 : V1.cell? ⟨w.heap.size + 1, 2, none⟩ = some (.slice sA ss.length sc) := blk_cell q4 2 _ rfl
  have a3 : V1.cell? ⟨w.heap.size + 1, 3, none⟩ = some (.slice cA cs.length cc) := blk_cell q4 3 _ rfl
  have a4 : V1.cell? ⟨w.heap.size + 1, 4, none⟩ = some (.slice vA vs.length vc) := blk_cell q4 4 _ rfl
  have b0 : V1.cell? ⟨w.heap.size + 1 + 1, 0, none⟩ = some (.int .u64 n') := blk_cell q5 0 _ rfl
  have b1 : V1.cell? ⟨w.heap.size + 1 + 1, 1, none⟩ = some (.int .u64 m') := blk_cell q5 1 _ rfl
  have b2 : V1.cell? ⟨w.heap.size + 1 + 1, 2, none⟩ = some (.slice sA' ss'.length sc') := blk_cell q5 2 _ rfl
  have b3 : V1.cell? ⟨w.heap.size + 1 + 1, 3, none⟩ = some (.slice cA' cs'.length cc') := blk_cell q5 3 _ rfl
  have b4 : V1.cell? ⟨w.heap.size + 1 + 1, 4, none⟩ = some (.slice vA' vs'.length vc') := blk_cell q5 4 _ rfl
  cases p1 with
  | false =>
    clear e0 e1 a0 a1 a2 a3 a4 b0 b1 b2 b3 b4
    have d0 : V1.cell? ⟨w.heap.size + 1 + 1 + 1, 0, none⟩ = some (.int .u64 0) := blk_cell q6 0 _ rfl
    have d1 : V1.cell? ⟨w.heap.size + 1 + 1 + 1, 1, none⟩ = some (.int .u64 0) := blk_cell q6 1 _ rfl
    have d2 : V1.cell? ⟨w.heap.size + 1 + 1 + 1, 2, none⟩ = some (.slice none 0 0) := blk_cell q6 2 _ rfl
    have d3 : V1.cell? ⟨w.heap.size + 1 + 1 + 1, 3, none⟩ = some (.slice none 0 0) := blk_cell q6 3 _ rfl
    have d4 : V1.cell? ⟨w.heap.size + 1 + 1 + 1, 4, none⟩ = some (.slice none 0 0) := blk_cell q6 4 _ rfl
    have f0 := blk_frozen q6 0
    have f1 := blk_frozen q6 1
    have f2 := blk_frozen q6 2
    have f3 := blk_frozen q6 3
    have f4 := blk_frozen q6 4
    go_wp2_with fail
    refine bodyPost_ret (results_cv rfl _ _ (w.heap.size + 1 + 1 + 1) (.int .u64 0) (.int .u64 0) (.slice none 0 0) (.slice none 0 0) (.slice none 0 0) rfl (blk_cell (set5_blk q6) 0 _ rfl) (blk_cell (set5_blk q6) 1 _ rfl) (blk_cell (set5_blk q6) 2 _ rfl) (blk_cell (set5_blk q6) 3 _ rfl) (blk_cell (set5_blk q6) 4 _ rfl)) rfl ?_
    rw [← HR.out, HNO.out (by simp)]
    exact .inr ⟨14, rfl, rfl, set5_bel hbV1 (by omega)⟩
  | true =>
    go_wp2_with fail
    refine (H2.out V1 hbV1).mono ?_
    rintro e V2 ⟨rfl, hb2⟩
    have hbV2 := hbV1.trans (hb2.mono hbV1.size)
    have hs2 := hb2.size
    replace q3 := q3.below hb2
    replace q4 := q4.below hb2
    replace q5 := q5.below hb2
    replace q6 := q6.below hb2
    clear e0 e1 a0 a1 a2 a3 a4 b0 b1 b2 b3 b4 H2
    have e0 : V2.cell? ⟨w.heap.size, 0, none⟩ = some (.int .i64 k) := blk_cell q3 0 _ rfl
    have e1 : V2.cell? ⟨w.heap.size, 1, none⟩ = some (.slice A l.length c) := blk_cell q3 1 _ rfl
    have a0 : V2.cell? ⟨w.heap.size + 1, 0, none⟩ = some (.int .u64 n) := blk_cell q4 0 _ rfl
    have a1 : V2.cell? ⟨w.heap.size + 1, 1, none⟩ = some (.int .u64 m) := blk_cell q4 1 _ rfl
    have a2 : V2.cell? ⟨w.heap.size + 1, 2, none⟩ = some (.slice sA ss.length sc) := blk_cell q4 2 _ rfl
    have a3 : V2.cell? ⟨w.heap.size + 1, 3, none⟩ = some (.slice cA cs.length cc) := blk_cell q4 3 _ rfl
    have a4 : V2.cell? ⟨w.heap.size + 1, 4, none⟩ = some (.slice vA vs.length vc) := blk_cell q4 4 _ rfl
    have b0 : V2.cell? ⟨w.heap.size + 1 + 1, 0, none⟩ = some (.int .u64 n') := blk_cell q5 0 _ rfl
    have b1 : V2.cell? ⟨w.heap.size + 1 + 1, 1, none⟩ = some (.int .u64 m') := blk_cell q5 1 _ rfl
    have b2 : V2.cell? ⟨w.heap.size + 1 + 1, 2, none⟩ = some (.slice sA' ss'.length sc') := blk_cell q5 2 _ rfl
    have b3 : V2.cell? ⟨w.heap.size + 1 + 1, 3, none⟩ = some (.slice cA' cs'.length cc') := blk_cell q5 3 _ rfl
    have b4 : V2.cell? ⟨w.heap.size + 1 + 1, 4, none⟩ = some (.slice vA' vs'.length vc') := blk_cell q5 4 _ rfl
    cases p2 with
    | false =>
      clear e0 e1 a0 a1 a2 a3 a4 b0 b1 b2 b3 b4
      have d0 : V2.cell? ⟨w.heap.size + 1 + 1 + 1, 0, none⟩ = some (.int .u64 0) := blk_cell q6 0 _ rfl
      have d1 : V2.cell? ⟨w.heap.size + 1 + 1 + 1, 1, none⟩ = some (.int .u64 0) := blk_cell q6 1 _ rfl
      have d2 : V2.cell? ⟨w.heap.size + 1 + 1 + 1, 2, none⟩ = some (.slice none 0 0) := blk_cell q6 2 _ rfl
      have d3 : V2.cell? ⟨w.heap.size + 1 + 1 + 1, 3, none⟩ = some (.slice none 0 0) := blk_cell q6 3 _ rfl
      have d4 : V2.cell? ⟨w.heap.size + 1 + 1 + 1, 4, none⟩ = some (.slice none 0 0) := blk_cell q6 4 _ rfl
      have f0 := blk_frozen q6 0
      have f1 := blk_frozen q6 1
      have f2 := blk_frozen q6 2
      have f3 := blk_frozen q6 3
      have f4 := blk_frozen q6 4
      go_wp2_with fail
      refine bodyPost_ret (results_cv rfl _ _ (w.heap.size + 1 + 1 + 1) (.int .u64 0) (.int .u64 0) (.slice none 0 0) (.slice none 0 0) (.slice none 0 0) rfl (blk_cell (set5_blk q6) 0 _ rfl) (blk_cell (set5_blk q6) 1 _ rfl) (blk_cell (set5_blk q6) 2 _ rfl) (blk_cell (set5_blk q6) 3 _ rfl) (blk_cell (set5_blk q6) 4 _ rfl)) rfl ?_
      rw [← HR.out, HNO.out (by simp)]
      exact .inr ⟨14, rfl, rfl, set5_bel hbV2 (by omega)⟩
    | true =>
      go_wp2_with fail
      refine (HJ.out (by simp) (by simp) V2 hbV2).mono ?_
      rintro e U hr
      obtain ⟨⟨zn, zm, zsA, zsc, zss, zcA, zcc, zcs, zvA, zvc, zvs⟩, ev, rfl, hzi, hbU, hcase⟩ := retJ_case hr
      simp only [val_mk]
      have HZ := Lib.hid hzi
      have HC := Lib.hid hcase
      have q6U := q6.below (W' := U) hbU
      clear hr hzi hcase e0 e1 a0 a1 a2 a3 a4 b0 b1 b2 b3 b4 q3 q4 q5
      have d0 : U.cell? ⟨w.heap.size + 1 + 1 + 1, 0, none⟩ = some (.int .u64 0) := blk_cell q6U 0 _ rfl
      have d1 : U.cell? ⟨w.heap.size + 1 + 1 + 1, 1, none⟩ = some (.int .u64 0) := blk_cell q6U 1 _ rfl
      have d2 : U.cell? ⟨w.heap.size + 1 + 1 + 1, 2, none⟩ = some (.slice none 0 0) := blk_cell q6U 2 _ rfl
      have d3 : U.cell? ⟨w.heap.size + 1 + 1 + 1, 3, none⟩ = some (.slice none 0 0) := blk_cell q6U 3 _ rfl
      have d4 : U.cell? ⟨w.heap.size + 1 + 1 + 1, 4, none⟩ = some (.slice none 0 0) := blk_cell q6U 4 _ rfl
      have f0 := blk_frozen q6U 0
      have f1 := blk_frozen q6U 1
      have f2 := blk_frozen q6U 2
      have f3 := blk_frozen q6U 3
      have f4 := blk_frozen q6U 4
      go_wp2_with fail
      refine bodyPost_ret (results_cv rfl _ _ (w.heap.size + 1 + 1 + 1) (.int .u64 zn) (.int .u64 zm) (.slice zsA zss.length zsc) (.slice zcA zcs.length zcc) (.slice zvA zvs.length zvc) rfl (blk_cell (set5_blk q6U) 0 _ rfl) (blk_cell (set5_blk q6U) 1 _ rfl) (blk_cell (set5_blk q6U) 2 _ rfl) (blk_cell (set5_blk q6U) 3 _ rfl) (blk_cell (set5_blk q6U) 4 _ rfl)) rfl ?_
      rw [← HR.out]
      refine retK_of_J (HYES.out (by simp) (by simp)) ?_
      rw [HJO.out]
      exact retJ_store hbV2 hbU (by omega) (by omega) HZ.out HC.out
end Go.Proofs.YtleejffjnknohaaGreat.J5

namespace Go.Proofs.YtleejffjnknohaaGreat.V4
open Go.RowKit Go.Shelf
open C3 (Tk isC belAl)
open S2 (Sc isT allocB)

attribute [local go_sem] Oper.semAt_some

theorem KN.set {D B : Nat} {W : World} (hD : D < B) (v : Value) : KN D B W (W.setCell ⟨D, 0, none⟩ v) :=
  ⟨by simp, fun b o h1 h2 => (Below.heap_setCell _ _ _ _ (by rcases h2 with ⟨_, h⟩ | h <;> simp only [ne_eq] <;> omega)).trans h1⟩
end Go.Proofs.YtleejffjnknohaaGreat.V4

namespace Go.Proofs.YtleejffjnknohaaGreat.V4
open Go.RowKit Go.Shelf
open C3 (Tk isC belAl drewB)
open S2 (Sc isT allocB)

set_option maxRecDepth 100000 in
set_option maxHeartbeats 2000000 in
theorem bottom_any : ∀ (s : Sc) (n : Nat), n ≤ 16 → isT n s.er = true → ∀ (w : World), s.In w.heap.size w → Calls Tryz.prog 37 #[s.val] w (RetWN w (botT s.er)) := by
  intro s
  induction s using S2.Sc.ind with
  | h k A c l ih =>
    intro n hn hp w hin
    obtain ⟨w1, hw1⟩ : ∃ w1, ((w.alloc (.cells #[.int .i64 k, .slice A l.length c] 24)).alloc (.cells #[.int .u64 0, .int .u64 0, .slice none 0 0, .slice none 0 0, .slice none 0 0] 32)) = w1 := ⟨_, rfl⟩
    have HW1 := Lib.hid hw1
    have HB1 : Hid (Below w.heap.size w w1) := by rw [← hw1]; exact belAl (allocB _ _)
    have HI0 := Lib.hid hin
    have HI1 := Lib.hid (hin.later HB1.out)
    have IH := Lib.hid ih
    have HP := Lib.hid hp
    clear hin ih hp hw1
    simp only [S2.val_mk]
    have a0 : w1.cell? ⟨w.heap.size, 0, none⟩ = some (.int .i64 k) := by rw [← HW1.out]; go_simp
    have a1 : w1.cell? ⟨w.heap.size, 1, none⟩ = some (.slice A l.length c) := by rw [← HW1.out]; go_simp
    have b0 : w1.cell? ⟨w.heap.size + 1, 0, none⟩ = some (.int .u64 0) := by rw [← HW1.out]; go_simp
    have b1 : w1.cell? ⟨w.heap.size + 1, 1, none⟩ = some (.int .u64 0) := by rw [← HW1.out]; go_simp
    have b2 : w1.cell? ⟨w.heap.size + 1, 2, none⟩ = some (.slice none 0 0) := by rw [← HW1.out]; go_simp
    have b3 : w1.cell? ⟨w.heap.size + 1, 3, none⟩ = some (.slice none 0 0) := by rw [← HW1.out]; go_simp
    have b4 : w1.cell? ⟨w.heap.size + 1, 4, none⟩ = some (.slice none 0 0) := by rw [← HW1.out]; go_simp
    have f0 : w1.frozen? ⟨w.heap.size + 1, 0, none⟩ = false := by rw [← HW1.out]; go_simp
    have f1 : w1.frozen? ⟨w.heap.size + 1, 1, none⟩ = false := by rw [← HW1.out]; go_simp
    have f2 : w1.frozen? ⟨w.heap.size + 1, 2, none⟩ = false := by rw [← HW1.out]; go_simp
    have f3 : w1.frozen? ⟨w.heap.size + 1, 3, none⟩ = false := by rw [← HW1.out]; go_simp
    have f4 : w1.frozen? ⟨w.heap.size + 1, 4, none⟩ = false := by rw [← HW1.out]; go_simp
    have hsz : w.heap.size + 1 < w1.heap.size := by rw [← HW1.out]; simp
    by_cases hc : k = 5
    · subst hc
      have hl2 : l.length = 2 := by
        have := isT_len (n := n) (k := 5) (l := l.map Sc.er) (by rw [← S2.er_mk 5 A c]; exact HP.out)
        simp [S2.arI] at this
        omega
      obtain ⟨x, y, rfl⟩ := two_of_len hl2
      obtain ⟨-, -, -, hall⟩ := HI1.out.out
      obtain ⟨hl0, -, -, -⟩ := HI0.out.out
      have hll : S2.LiesS w.heap.size w1 A [x, y] := hl0.below HB1.out
      obtain ⟨b, off, rfl, hb, hcl⟩ := hll.get (k := 0) (by simp)
      have hbn : b ≠ w.heap.size + 1 := by omega
      have hbn' : w.heap.size + 1 ≠ b := by omega
      replace hb : b < w1.heap.size := by omega
      obtain ⟨c0, c1⟩ := hcl 0 x rfl
      obtain ⟨c2, c3⟩ := hcl 1 y rfl
      have HX := Lib.hid (hall x (by simp))
      have HY := Lib.hid (hall y (by simp))
      obtain ⟨n', rfl⟩ : ∃ n', n = n' + 1 := by
        cases n with
        | zero => have := HP.out; simp [isT] at this
        | succ n' => exact ⟨n', rfl⟩
      have hsub := HP.out
      rw [S2.er_mk] at hsub
      have IHX := Lib.hid (IH.out x (by simp) n' (by omega) (isT_ins hsub x.er (by simp)))
      have IHY := Lib.hid (IH.out y (by simp) n' (by omega) (isT_ins hsub y.er (by simp)))
      have HT : Hid (botT (Sc.mk 5 (some ⟨b, off, none⟩) c [x, y]).er = .mk 0 0 [] [] [botT x.er, botT y.er]) := by
        show botT _ = _
        have := isT_le HP.out hn
        rw [S2.er_mk] at this ⊢
        exact botT_pair this
      rw [HT.out]
      clear hll hl0 hall hcl IH hl2 HP HI0 HI1 hsub
      obtain ⟨xk, xA, xc, xl⟩ := x
      obtain ⟨yk, yA, yc, yl⟩ := y
      simp only [S2.Sc.v1, S2.Sc.k, Nat.zero_mul, Nat.add_zero, Nat.one_mul] at c0 c1 c2 c3
      simp only [S2.val_mk] at IHX IHY
      replace HX := Lib.hid (HX.out.later (drewB w1))
      replace HY := Lib.hid (HY.out.later (drewB w1))
      replace HB1 : Hid (Below w.heap.size w w1.drew) := HB1.out.drew
      simp only [List.length_cons, List.length_nil, Nat.zero_add, Nat.reduceAdd] at a1
      have hs0 : w.heap.size < w1.heap.size := by omega
      have hsn := Nat.ne_of_lt hsz
      go_enter Tryz.func37, Tryz.ntmps37
      go_wp2_with fail
      simp only [List.length_cons, List.length_nil, Nat.zero_add, Nat.reduceAdd] at HW1
      rw [HW1.out]
      clear HW1
      go_region_held3 (fun w' => w'.cell? ⟨w.heap.size, 1, none⟩ = some (.slice (some ⟨b, off, none⟩) 2 c) ∧ w'.cell? ⟨b, off, none⟩ = some (.int .i64 xk) ∧ w'.cell? ⟨b, off + 1, none⟩ = some (.slice xA xl.length xc) ∧ w'.cell? ⟨b, off + 2, none⟩ = some (.int .i64 yk) ∧ w'.cell? ⟨b, off + 2 + 1, none⟩ = some (.slice yA yl.length yc))
        (first
          | (with_reducible exact ⟨a1, c0, c1, c2, c3⟩)
          | (refine ⟨?_, ?_, ?_, ?_, ?_⟩ <;> go_simp))
        (first
          | (go_at_call 37; refine (IHX.out _ HX.out).mono ?_; rintro e w2 ⟨⟨pn, pm, psA, psc, pss, pcA, pcc, pcs, pvA, pvc, pvs⟩, rfl, hpe, hpi, hb2⟩; (simp only [val_mk]; have HPE := Lib.hid hpe; have HPI : Hid ((Vl.mk pn pm psA psc pss pcA pcc pcs pvA pvc pvs).Inp (fun b => w.heap.size + 2 ≤ b ∧ b < w2.heap.size) w2) := hpi.mono (fun b hP => ⟨Nat.le_trans hsz hP.1, hP.2⟩); replace HY := Lib.hid (HY.out.later hb2); clear hpe hpi HX IHX; replace a1 := (hb2.cell (p := ⟨w.heap.size, 1, none⟩) hs0).trans a1; replace c0 := (hb2.cell (p := ⟨b, off, none⟩) hb).trans c0; replace c1 := (hb2.cell (p := ⟨b, off + 1, none⟩) hb).trans c1; replace c2 := (hb2.cell (p := ⟨b, off + 2, none⟩) hb).trans c2; replace c3 := (hb2.cell (p := ⟨b, off + 2 + 1, none⟩) hb).trans c3; replace b0 := (hb2.cell (p := ⟨w.heap.size + 1, 0, none⟩) hsz).trans b0; replace b1 := (hb2.cell (p := ⟨w.heap.size + 1, 1, none⟩) hsz).trans b1; replace b2 := (hb2.cell (p := ⟨w.heap.size + 1, 2, none⟩) hsz).trans b2; replace b3 := (hb2.cell (p := ⟨w.heap.size + 1, 3, none⟩) hsz).trans b3; replace b4 := (hb2.cell (p := ⟨w.heap.size + 1, 4, none⟩) hsz).trans b4; replace f0 := (hb2.frozen (p := ⟨w.heap.size + 1, 0, none⟩) hsz).trans f0; replace f1 := (hb2.frozen (p := ⟨w.heap.size + 1, 1, none⟩) hsz).trans f1; replace f2 := (hb2.frozen (p := ⟨w.heap.size + 1, 2, none⟩) hsz).trans f2; replace f3 := (hb2.frozen (p := ⟨w.heap.size + 1, 3, none⟩) hsz).trans f3; replace f4 := (hb2.frozen (p := ⟨w.heap.size + 1, 4, none⟩) hsz).trans f4; replace hb : b < w2.heap.size := Nat.lt_of_lt_of_le hb hb2.size; replace hs0 : w.heap.size < w2.heap.size := Nat.lt_of_lt_of_le hs0 hb2.size; replace hsz : w.heap.size + 1 < w2.heap.size := Nat.lt_of_lt_of_le hsz hb2.size; replace hsn := Nat.ne_of_lt hsz; replace HB1 : Hid (Below w.heap.size w w2) := HB1.out.trans (hb2.mono HB1.out.size); clear hb2))
          | (go_at_call 37; refine (IHY.out _ HY.out).mono ?_; rintro e w3 ⟨⟨qn, qm, qsA, qsc, qss, qcA, qcc, qcs, qvA, qvc, qvs⟩, rfl, hqe, hqi, hb3⟩; (simp only [val_mk]; have HQE := Lib.hid hqe; have HQI : Hid ((Vl.mk qn qm qsA qsc qss qcA qcc qcs qvA qvc qvs).Inp (fun b => w.heap.size + 2 ≤ b ∧ b < w3.heap.size) w3) := hqi.mono (fun b hP => ⟨Nat.le_trans hsz hP.1, hP.2⟩); replace HPI : Hid ((Vl.mk pn pm psA psc pss pcA pcc pcs pvA pvc pvs).Inp (fun b => w.heap.size + 2 ≤ b ∧ b < w3.heap.size) w3) := (HPI.out.keep fun b hP => hb3.block b hP.2).mono (fun b hP => ⟨hP.1, Nat.lt_of_lt_of_le hP.2 hb3.size⟩); clear hqe hqi; replace a1 := (hb3.cell (p := ⟨w.heap.size, 1, none⟩) hs0).trans a1; replace c0 := (hb3.cell (p := ⟨b, off, none⟩) hb).trans c0; replace c1 := (hb3.cell (p := ⟨b, off + 1, none⟩) hb).trans c1; replace c2 := (hb3.cell (p := ⟨b, off + 2, none⟩) hb).trans c2; replace c3 := (hb3.cell (p := ⟨b, off + 2 + 1, none⟩) hb).trans c3; replace b0 := (hb3.cell (p := ⟨w.heap.size + 1, 0, none⟩) hsz).trans b0; replace b1 := (hb3.cell (p := ⟨w.heap.size + 1, 1, none⟩) hsz).trans b1; replace b2 := (hb3.cell (p := ⟨w.heap.size + 1, 2, none⟩) hsz).trans b2; replace b3 := (hb3.cell (p := ⟨w.heap.size + 1, 3, none⟩) hsz).trans b3; replace b4 := (hb3.cell (p := ⟨w.heap.size + 1, 4, none⟩) hsz).trans b4; replace f0 := (hb3.frozen (p := ⟨w.heap.size + 1, 0, none⟩) hsz).trans f0; replace f1 := (hb3.frozen (p := ⟨w.heap.size + 1, 1, none⟩) hsz).trans f1; replace f2 := (hb3.frozen (p := ⟨w.heap.size + 1, 2, none⟩) hsz).trans f2; replace f3 := (hb3.frozen (p := ⟨w.heap.size + 1, 3, none⟩) hsz).trans f3; replace f4 := (hb3.frozen (p := ⟨w.heap.size + 1, 4, none⟩) hsz).trans f4; replace hb : b < w3.heap.size := Nat.lt_of_lt_of_le hb hb3.size; replace hs0 : w.heap.size < w3.heap.size := Nat.lt_of_lt_of_le hs0 hb3.size; replace hsz : w.heap.size + 1 < w3.heap.size := Nat.lt_of_lt_of_le hsz hb3.size; replace hsn := Nat.ne_of_lt hsz; replace HB1 : Hid (Below w.heap.size w w3) := HB1.out.trans (hb3.mono HB1.out.size); clear hb3)))
      go_wp2_with fail
      refine bodyPost_ret (results_cellV rfl _ _ (w.heap.size + 1) (.int .u64 0) (.int .u64 0) (.slice none 0 0) (.slice none 0 0) (.slice (some ⟨w3.heap.size, 0, none⟩) 2 2) rfl (by go_simp) (by go_simp) (by go_simp) (by go_simp) (by go_simp)) rfl ?_
      rw [← HPE.out, ← HQE.out]
      exact bottom_end HPI.out HQI.out hsz (by simp) (fun b hbb => by
        rw [Below.heap_setCell _ _ _ _ (by show b ≠ w.heap.size + 1; omega), Below.heap_setCell _ _ _ _ (by show b ≠ w.heap.size + 1; omega), Below.heap_setCell _ _ _ _ (by show b ≠ w.heap.size + 1; omega), Below.heap_setCell _ _ _ _ (by show b ≠ w.heap.size + 1; omega), Below.heap_setCell _ _ _ _ (by show b ≠ w.heap.size + 1; omega)])
        (((((HB1.out.setCell (by simp) _).setCell (by simp) _).setCell (by simp) _).setCell (by simp) _).setCell (by simp) _)
    · have HT : Hid (botT (Sc.mk k A c l).er = .zero) := botT_zero (by rw [S2.er_k]; exact fun h => hc h.2)
      rw [HT.out]
      have h5' : (k == 5) = false := by simp [hc]
      have h5'' : (k != 5) = true := by simp [hc]
      have HB2 : Hid (Below w.heap.size w ((w.alloc (.cells #[.int .i64 k, .slice A l.length c] 24)).alloc (.cells #[.int .u64 0, .int .u64 0, .slice none 0 0, .slice none 0 0, .slice none 0 0] 32))) := belAl (allocB _ _)
      clear HW1 a0 a1 b0 b1 b2 b3 b4 f0 f1 f2 f3 f4 hsz hc IH HP HI0 HI1 HB1
      go_enter Tryz.func37, Tryz.ntmps37
      go_wp2_with fail
      refine bodyPost_ret (results_cellV rfl _ _ (w.heap.size + 1) (.int .u64 0) (.int .u64 0) (.slice none 0 0) (.slice none 0 0) (.slice none 0 0) rfl (by go_simp) (by go_simp) (by go_simp) (by go_simp) (by go_simp)) rfl ?_
      exact ⟨.mk 0 0 none 0 [] none 0 [] none 0 [], rfl, rfl, inp_zero _ _, HB2.out⟩

set_option maxRecDepth 100000 in
set_option maxHeartbeats 1000000 in
theorem Bottom_any (s : Sc) (w : World) (hin : s.In w.heap.size w) : Calls Tryz.prog 24 #[s.val] w (RetWN w (botT s.er)) := by
  obtain ⟨k, A, c, l⟩ := s
  obtain ⟨w1, hw1⟩ : ∃ w1, ((w.alloc (.cells #[.int .i64 k, .slice A l.length c] 24)).alloc (.cells #[.int .u64 0, .int .u64 0, .slice none 0 0, .slice none 0 0, .slice none 0 0] 32)) = w1 := ⟨_, rfl⟩
  have HW1 := Lib.hid hw1
  have HB1 : Hid (Below w.heap.size w w1) := by rw [← hw1]; exact belAl (allocB _ _)
  have HI1 := Lib.hid (hin.later HB1.out)
  obtain ⟨q, hq⟩ : ∃ q, isT 16 (Sc.mk k A c l).er = q := ⟨_, rfl⟩
  have HQ := Lib.hid hq
  have HS := Lib.hid (S2.Is_any (Sc.mk k A c l) w1 HI1.out)
  rw [hq] at HS
  clear hin hw1 hq
  simp only [S2.val_mk] at HS ⊢
  have a0 : w1.cell? ⟨w.heap.size, 0, none⟩ = some (.int .i64 k) := by rw [← HW1.out]; go_simp
  have a1 : w1.cell? ⟨w.heap.size, 1, none⟩ = some (.slice A l.length c) := by rw [← HW1.out]; go_simp
  have b0 : w1.cell? ⟨w.heap.size + 1, 0, none⟩ = some (.int .u64 0) := by rw [← HW1.out]; go_simp
  have b1 : w1.cell? ⟨w.heap.size + 1, 1, none⟩ = some (.int .u64 0) := by rw [← HW1.out]; go_simp
  have b2 : w1.cell? ⟨w.heap.size + 1, 2, none⟩ = some (.slice none 0 0) := by rw [← HW1.out]; go_simp
  have b3 : w1.cell? ⟨w.heap.size + 1, 3, none⟩ = some (.slice none 0 0) := by rw [← HW1.out]; go_simp
  have b4 : w1.cell? ⟨w.heap.size + 1, 4, none⟩ = some (.slice none 0 0) := by rw [← HW1.out]; go_simp
  have f0 : w1.frozen? ⟨w.heap.size + 1, 0, none⟩ = false := by rw [← HW1.out]; go_simp
  have f1 : w1.frozen? ⟨w.heap.size + 1, 1, none⟩ = false := by rw [← HW1.out]; go_simp
  have f2 : w1.frozen? ⟨w.heap.size + 1, 2, none⟩ = false := by rw [← HW1.out]; go_simp
  have f3 : w1.frozen? ⟨w.heap.size + 1, 3, none⟩ = false := by rw [← HW1.out]; go_simp
  have f4 : w1.frozen? ⟨w.heap.size + 1, 4, none⟩ = false := by rw [← HW1.out]; go_simp
  have hsz : w.heap.size + 1 < w1.heap.size := by rw [← HW1.out]; simp
  go_enter Tryz.func24, Tryz.ntmps24
  go_wp2_with fail
  rw [HW1.out]
  clear HW1
  refine HS.out.mono ?_
  clear HS
  rintro e w2 ⟨rfl, hb2⟩
  replace a0 := (hb2.cell (p := ⟨w.heap.size, 0, none⟩) (by simp only; omega)).trans a0
  replace a1 := (hb2.cell (p := ⟨w.heap.size, 1, none⟩) (by simp only; omega)).trans a1
  replace b0 := (hb2.cell (p := ⟨w.heap.size + 1, 0, none⟩) (by simp only; omega)).trans b0
  replace f0 := (hb2.frozen (p := ⟨w.heap.size + 1, 0, none⟩) (by simp only; omega)).trans f0
  replace b1 := (hb2.cell (p := ⟨w.heap.size + 1, 1, none⟩) (by simp only; omega)).trans b1
  replace f1 := (hb2.frozen (p := ⟨w.heap.size + 1, 1, none⟩) (by simp only; omega)).trans f1
  replace b2 := (hb2.cell (p := ⟨w.heap.size + 1, 2, none⟩) (by simp only; omega)).trans b2
  replace f2 := (hb2.frozen (p := ⟨w.heap.size + 1, 2, none⟩) (by simp only; omega)).trans f2
  replace b3 := (hb2.cell (p := ⟨w.heap.size + 1, 3, none⟩) (by simp only; omega)).trans b3
  replace f3 := (hb2.frozen (p := ⟨w.heap.size + 1, 3, none⟩) (by simp only; omega)).trans f3
  replace b4 := (hb2.cell (p := ⟨w.heap.size + 1, 4, none⟩) (by simp only; omega)).trans b4
  replace f4 := (hb2.frozen (p := ⟨w.heap.size + 1, 4, none⟩) (by simp only; omega)).trans f4
  replace hsz := Nat.lt_of_lt_of_le hsz hb2.size
  have HB2 : Hid (Below w.heap.size w w2) := HB1.out.trans (hb2.mono HB1.out.size)
  have HI2 := Lib.hid (HI1.out.later hb2)
  clear hb2 HB1 HI1
  cases q with
  | false =>
    have HT : Hid (botT (Sc.mk k A c l).er = .zero) := botT_zero (fun h => by rw [HQ.out] at h; exact absurd h.1 (by simp))
    rw [HT.out]
    go_wp2_with fail
    refine bodyPost_ret (results_cellV rfl _ _ (w.heap.size + 1) (.int .u64 0) (.int .u64 0) (.slice none 0 0) (.slice none 0 0) (.slice none 0 0) rfl (by go_simp) (by go_simp) (by go_simp) (by go_simp) (by go_simp)) rfl ?_
    exact ⟨.mk 0 0 none 0 [] none 0 [] none 0 [], rfl, by rw [HT.out]; rfl, inp_zero _ _, ((((HB2.out.setCell (by simp) _).setCell (by simp) _).setCell (by simp) _).setCell (by simp) _).setCell (by simp) _⟩
  | true =>
    have HBT := Lib.hid (bottom_any (Sc.mk k A c l) 16 (Nat.le_refl _) HQ.out w2 HI2.out)
    simp only [S2.val_mk] at HBT
    go_wp2_with fail
    refine HBT.out.mono ?_
    clear HBT
    rintro e w3 ⟨⟨pn, pm, psA, psc, pss, pcA, pcc, pcs, pvA, pvc, pvs⟩, rfl, hpe, hpi, hb2⟩
    simp only [val_mk]
    have HPI : Hid ((Vl.mk pn pm psA psc pss pcA pcc pcs pvA pvc pvs).Inp (fun b => w.heap.size + 2 ≤ b ∧ b < w3.heap.size) w3) := hpi.mono fun b hb => ⟨by have := hb.1; omega, hb.2⟩
    have HPE := Lib.hid hpe
    replace a0 := (hb2.cell (p := ⟨w.heap.size, 0, none⟩) (by simp only; omega)).trans a0
    replace a1 := (hb2.cell (p := ⟨w.heap.size, 1, none⟩) (by simp only; omega)).trans a1
    replace b0 := (hb2.cell (p := ⟨w.heap.size + 1, 0, none⟩) (by simp only; omega)).trans b0
    replace f0 := (hb2.frozen (p := ⟨w.heap.size + 1, 0, none⟩) (by simp only; omega)).trans f0
    replace b1 := (hb2.cell (p := ⟨w.heap.size + 1, 1, none⟩) (by simp only; omega)).trans b1
    replace f1 := (hb2.frozen (p := ⟨w.heap.size + 1, 1, none⟩) (by simp only; omega)).trans f1
    replace b2 := (hb2.cell (p := ⟨w.heap.size + 1, 2, none⟩) (by simp only; omega)).trans b2
    replace f2 := (hb2.frozen (p := ⟨w.heap.size + 1, 2, none⟩) (by simp only; omega)).trans f2
    replace b3 := (hb2.cell (p := ⟨w.heap.size + 1, 3, none⟩) (by simp only; omega)).trans b3
    replace f3 := (hb2.frozen (p := ⟨w.heap.size + 1, 3, none⟩) (by simp only; omega)).trans f3
    replace b4 := (hb2.cell (p := ⟨w.heap.size + 1, 4, none⟩) (by simp only; omega)).trans b4
    replace f4 := (hb2.frozen (p := ⟨w.heap.size + 1, 4, none⟩) (by simp only; omega)).trans f4
    replace hsz := Nat.lt_of_lt_of_le hsz hb2.size
    have HB3 : Hid (Below w.heap.size w w3) := HB2.out.trans (hb2.mono HB2.out.size)
    clear hb2 HB2 HI2 hpi hpe
    go_wp2_with fail
    refine bodyPost_ret (results_cellV rfl _ _ (w.heap.size + 1) (.int .u64 pn) (.int .u64 pm) (.slice psA pss.length psc) (.slice pcA pcs.length pcc) (.slice pvA pvs.length pvc) rfl (by go_simp) (by go_simp) (by go_simp) (by go_simp) (by go_simp)) rfl ?_
    refine ⟨Vl.mk pn pm psA psc pss pcA pcc pcs pvA pvc pvs, rfl, HPE.out, ?_, ((((HB3.out.setCell (by simp) _).setCell (by simp) _).setCell (by simp) _).setCell (by simp) _).setCell (by simp) _⟩
    refine (HPI.out.keep fun b hb => ?_).mono fun b hb => ⟨by omega, by simpa using hb.2⟩
    rw [Below.heap_setCell _ _ _ _ (by show b ≠ w.heap.size + 1; omega), Below.heap_setCell _ _ _ _ (by show b ≠ w.heap.size + 1; omega), Below.heap_setCell _ _ _ _ (by show b ≠ w.heap.size + 1; omega), Below.heap_setCell _ _ _ _ (by show b ≠ w.heap.size + 1; omega), Below.heap_setCell _ _ _ _ (by show b ≠ w.heap.size + 1; omega)]
end Go.Proofs.YtleejffjnknohaaGreat.V4
