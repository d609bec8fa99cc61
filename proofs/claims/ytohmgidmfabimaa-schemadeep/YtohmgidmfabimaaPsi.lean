/- What schema.Is does. No condition but that the schema lies in memory. -/
import Derived.Test.YtohmgidmfabimaaPsh
namespace Go.Proofs.Ytohmgidmfabimaa
open Go.RowKit Go.Shelf

attribute [local go_sem] Oper.semAt_some

/-- Not too deep, and of the shape of its kind. -/
def goodS (x : Int × Sc) : Bool := decide (x.1 ≤ 16) && shapedS x.2

theorem results_cell1 {fn : Func} {p : Tmp} {t : TypeId} (h : fn.results = #[.cell p t]) (ht : t = 4) (tmps : Array Value) (w : World) (g : Nat) (v : Value) (hp : tmps.getD p undef = .pointer (some ⟨g, 0, none⟩))
    (h0 : w.cell? ⟨g, 0, none⟩ = some v) : (results fn tmps).run Try.prog w = .ok v w := by
  have hp' : tmps[p]?.getD undef = .pointer (some ⟨g, 0, none⟩) := by simpa using hp
  subst ht
  simp [results, h, hp', asAddr]
  go_simp

set_option maxRecDepth 100000 in
set_option maxHeartbeats 1000000 in
theorem Is_pre (s : Sc) (w : World) (hin : s.In w.heap.size w) : Calls Try.prog 6 #[s.val] w (RetV w (.bool ((preS s 1).all goodS))) := by
  refine (callsIn_wide (n := 6)).1 ?_
  have HIN := Lib.hid hin
  clear hin
  obtain ⟨k0, A, c, l⟩ := s
  simp only [val_mk]
  refine callsIn_of_wp_marks Try.func6 rfl trivial ?_ rfl
  simp only [Try.ntmps6, List.size_toArray, List.length_cons, List.length_nil, Nat.reduceAdd, Nat.reduceSub, Array.replicate_succ, Array.replicate_zero, List.push_toArray, List.append_toArray, List.nil_append, List.cons_append]
  gi_wp2_with fail
  refine ⟨trivial, (callsIn_wide.2 (nested_any (.mk k0 A c l) _)).mono ?_⟩
  rintro e w' ⟨rfl, rfl⟩
  gi_wp2_with fail
  have hB0 : Below w.heap.size w ((((w.alloc (.cells #[.int .i64 k0, .slice A l.length c] 24)).alloc (.cells #[.bool false] 4)).alloc (.cells #[.int .i64 (Sc.mk k0 A c l).k, (Sc.mk k0 A c l).v1] 24)).alloc (.cells #[.func (.func 17) #[] #[]] 36)) := belAl (belAl (belAl (belAl (Below.refl _ _))))
  have hsz : ((((w.alloc (.cells #[.int .i64 k0, .slice A l.length c] 24)).alloc (.cells #[.bool false] 4)).alloc (.cells #[.int .i64 (Sc.mk k0 A c l).k, (Sc.mk k0 A c l).v1] 24)).alloc (.cells #[.func (.func 17) #[] #[]] 36)).heap.size = w.heap.size + 4 := by simp
  have bR : Boxed ((((w.alloc (.cells #[.int .i64 k0, .slice A l.length c] 24)).alloc (.cells #[.bool false] 4)).alloc (.cells #[.int .i64 (Sc.mk k0 A c l).k, (Sc.mk k0 A c l).v1] 24)).alloc (.cells #[.func (.func 17) #[] #[]] 36)) (w.heap.size + 1) 4 (.bool false) := by
    have := Boxed.new (w.alloc (.cells #[.int .i64 k0, .slice A l.length c] 24)) 4 (.bool false)
    rw [World.size_alloc] at this
    exact (this.alloc _).alloc _
  have cT0 : ((((w.alloc (.cells #[.int .i64 k0, .slice A l.length c] 24)).alloc (.cells #[.bool false] 4)).alloc (.cells #[.int .i64 (Sc.mk k0 A c l).k, (Sc.mk k0 A c l).v1] 24)).alloc (.cells #[.func (.func 17) #[] #[]] 36)).cell? ⟨w.heap.size + 1 + 1, 0, none⟩ = some (.int .i64 (Sc.mk k0 A c l).k) := (World.cell?_alloc_past _ _ _ (by simp)).trans (cell_at_new (by simp) rfl)
  have cT1 : ((((w.alloc (.cells #[.int .i64 k0, .slice A l.length c] 24)).alloc (.cells #[.bool false] 4)).alloc (.cells #[.int .i64 (Sc.mk k0 A c l).k, (Sc.mk k0 A c l).v1] 24)).alloc (.cells #[.func (.func 17) #[] #[]] 36)).cell? ⟨w.heap.size + 1 + 1, 1, none⟩ = some (Sc.mk k0 A c l).v1 := (World.cell?_alloc_past _ _ _ (by simp)).trans (cell_at_new (by simp) rfl)
  have cI : ((((w.alloc (.cells #[.int .i64 k0, .slice A l.length c] 24)).alloc (.cells #[.bool false] 4)).alloc (.cells #[.int .i64 (Sc.mk k0 A c l).k, (Sc.mk k0 A c l).v1] 24)).alloc (.cells #[.func (.func 17) #[] #[]] 36)).cell? ⟨w.heap.size + 1 + 1 + 1, 0, none⟩ = some (.func (.func 17) #[] #[]) := cell_at_new (by simp) rfl
  generalize ((((w.alloc (.cells #[.int .i64 k0, .slice A l.length c] 24)).alloc (.cells #[.bool false] 4)).alloc (.cells #[.int .i64 (Sc.mk k0 A c l).k, (Sc.mk k0 A c l).v1] 24)).alloc (.cells #[.func (.func 17) #[] #[]] 36)) = W0 at *
  have hin0 : (Sc.mk k0 A c l).Inp (fun b => b ≠ w.heap.size + 1) W0 := (Sc.In.keep HIN.out hB0).mono fun b hb => by omega
  refine wpIn_rangeFunc_ownH rfl (by omega) (gf := 25) (lb := #[.pointer (some ⟨w.heap.size + 1 + 1, 0, none⟩), .pointer (some ⟨w.heap.size + 1 + 1 + 1, 0, none⟩)]) rfl trivial (enters_of Try.func25 (by kernel_rfl) rfl)
    (nested_stops 5 (w.heap.size + 1 + 1) (w.heap.size + 1 + 1 + 1) (w.heap.size + 1) (.mk k0 A c l) W0 hin0 (by omega) cT0 cT1 cI) KC.trans (KC.book (w := W0)) (Below.refl _ _) (fun _ => rfl)
    (fun (pre : List (Int × Sc)) W => (Boxed W (w.heap.size + 1) 4 (.bool false) ∧ Below w.heap.size w W) ∧ pre.all goodS = true)
    (fun cd (pre : List (Int × Sc)) W => (Boxed W (w.heap.size + 1) 4 (.bool false) ∧ Below w.heap.size w W) ∧ cd = .ret ∧ pre.all goodS = false)
    (OwnFrom.and (OwnFrom.and (Own.from (boxed_own _ _ fun _ => _) _) (ownFrom_below (Nat.le_refl _) (by omega))) (ownFrom_pure _ _))
    (fun cd => OwnFrom.and (OwnFrom.and (Own.from (boxed_own _ _ fun _ => _) _) (ownFrom_below (Nat.le_refl _) (by omega))) (ownFrom_pure _ _))
    ⟨⟨bR, hB0⟩, rfl⟩
    (fun x a' W => ∃ bp, a' = { tmps := #[.agg #[.int .i64 k0, .slice A l.length c], .pointer (some ⟨w.heap.size, 0, none⟩), .pointer (some ⟨w.heap.size + 1, 0, none⟩), .int .i64 x.1, .pointer (some ⟨bp, 0, none⟩), .agg #[.int .i64 k0, .slice A l.length c],
        .func (.func 25) #[] #[.pointer (some ⟨w.heap.size + 1 + 1, 0, none⟩), .pointer (some ⟨w.heap.size + 1 + 1 + 1, 0, none⟩)], .int .i64 x.1, x.2.val, undef, undef, undef, undef, undef, undef, undef], defers := [] } ∧
      W.cell? ⟨bp, 0, none⟩ = some (.int .i64 x.2.k) ∧ W.cell? ⟨bp, 1, none⟩ = some x.2.v1)
    ?ax ?assign ?body ?done ?stop
  case ax =>
    rintro x a' _ W W' row ⟨bp, h1, h2, h3⟩ hg hr
    exact ⟨bp, h1, cell_kept h2 hg (fun r e => (hr r e).2), cell_kept h3 hg (fun r e => (hr r e).2)⟩
  case assign =>
    rintro l0 pre ⟨d, ⟨xk, xA, xc, xl⟩⟩ W K ⟨⟨hR, hB⟩, hp⟩ hK
    unfold encD
    simp only [val_mk]
    gi_wp2
    exact hK _ _ ((KeepsOthers.alloc W _).from _) (KC.of_below (allocB _ _)) ⟨⟨hR.alloc _, belAl hB⟩, hp⟩ ⟨W.heap.size, rfl, by simp [Sc.k], by simp [Sc.v1]⟩
  case body =>
    rintro l0 pre ⟨d, ⟨xk, xA, xc, xl⟩⟩ a' W hl0 - ⟨⟨hR, hB⟩, hp⟩ ⟨bp, rfl, hc0, hc1⟩ hlt
    simp only [Sc.k, Sc.v1, val_mk] at hc0 hc1 ⊢
    have hcl := hR.cell
    have hcf := hR.frozen
    have HP := Lib.hid hp
    clear hp
    have hlw : w.heap.size + 1 < W0.heap.size := by omega
    by_cases h16 : d ≤ 16
    · obtain ⟨q, hq⟩ : ∃ q, shapedS (.mk xk xA xc xl) = q := ⟨_, rfl⟩
      have HG : Hid ((pre ++ [(d, Sc.mk xk xA xc xl)]).all goodS = q) := by
        show List.all _ _ = q
        rw [List.all_append, HP.out]
        simp [goodS, h16, hq]
      have HQ := Lib.hid hq
      have hn16 : ¬ 16 < d := by omega
      clear hq
      gi_wp2_with fail
      refine ⟨trivial, (CallsIn.inRound l0 (callsIn_wide.2 (shaped_any (.mk xk xA xc xl) W))).mono ?_⟩
      rintro e W2 ⟨rfl, hb2⟩
      rw [HQ.out]
      have hR2 : Boxed W2 (w.heap.size + 1) 4 (.bool false) := (hb2.block _ hR.lt).trans hR
      have hB2 := hB.trans (hb2.mono hB.size)
      have hcl2 := hR2.cell
      have hcf2 := hR2.frozen
      have hkf : KeepsFrom W0.heap.size W W2 := ⟨hb2.size, fun k o _ h _ => (hb2.block k (Array.getElem?_eq_some_iff.1 h).1).trans h⟩
      have hkc : KC (w.heap.size + 1) W W2 := KC.of_below hb2
      clear hb2 hcl hcf hc0 hc1
      cases q with
      | true =>
        gi_wp2_with fail
        exact ⟨hkf, hkc, ⟨hR2, hB2⟩, HG.out⟩
      | false =>
        gi_wp2_with fail
        exact ⟨hkf.trans (KeepsFrom.of_grownBy (grownBy_setCell' _ _ _) (fun j e => by cases e; exact hlw)), ⟨hR2.set _, hB2.setCell (by simp) _⟩, rfl, HG.out⟩
    · have HG : Hid ((pre ++ [(d, Sc.mk xk xA xc xl)]).all goodS = false) := by
        show List.all _ _ = false
        rw [List.all_append]
        simp [goodS, h16]
      have h17 : 16 < d := by omega
      gi_wp2_with fail
      refine ⟨trivial, ?_⟩
      gi_wp2_with fail
      exact ⟨KeepsFrom.of_grownBy (grownBy_setCell' _ _ _) (fun j e => by cases e; exact hlw), ⟨hR.set _, hB.setCell (by simp) _⟩, rfl, HG.out⟩
  case done =>
    rintro D zs W hD rfl ⟨⟨hR, hB⟩, hp⟩ hK
    have hcl := hR.cell
    have hcf := hR.frozen
    have HP := Lib.hid hp
    clear hp
    gi_wp2
    have hne : w.heap.size + 1 ≠ D := by omega
    have hK2 : (W.setCell ⟨w.heap.size + 1, 0, none⟩ (.bool true)).heap[D]? = some (.deferred (some [])) := (Below.heap_setCell _ _ _ _ (Ne.symm hne)).trans hK
    refine ⟨by simp, .inl ⟨_, _, rfl, run_takeDeferred hK2, ?_⟩⟩
    refine ⟨_, results_cell1 rfl rfl _ _ (w.heap.size + 1) (.bool true) rfl ((World.cell?_of_block (World.putObj_heap_other hne)).trans (hR.set (.bool true)).cell), ?_⟩
    rw [HP.out]
    exact ⟨rfl, (hB.setCell (by simp) _).trans (belowK_b (w := w) (Nat.le_refl _) _ D _ _ (by omega) hK2 rfl rfl)⟩
  case stop =>
    rintro D cd pre W hD hpre ⟨⟨hR, hB⟩, rfl, hp⟩ hK
    have hcl := hR.cell
    have HA : Hid ((preS (Sc.mk k0 A c l) 1).all goodS = false) := by
      obtain ⟨r, hr⟩ := hpre
      show List.all _ _ = false
      rw [← hr, List.all_append, hp]
      rfl
    gi_wp2
    have hne : w.heap.size + 1 ≠ D := by omega
    refine ⟨by simp, .inl ⟨_, _, rfl, run_takeDeferred hK, ?_⟩⟩
    refine ⟨_, results_cell1 rfl rfl _ _ (w.heap.size + 1) (.bool false) rfl ((World.cell?_of_block (World.putObj_heap_other hne)).trans hcl), ?_⟩
    rw [HA.out]
    exact ⟨rfl, hB.trans (belowK_b (w := w) (Nat.le_refl _) W D _ _ (by omega) hK rfl rfl)⟩
end Go.Proofs.Ytohmgidmfabimaa
