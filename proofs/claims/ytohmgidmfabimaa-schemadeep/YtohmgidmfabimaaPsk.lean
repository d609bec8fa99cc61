/- What schema.Deep does. No condition but that the schema lies in memory. -/
import Derived.Test.YtohmgidmfabimaaPsj
namespace Go.Proofs.Ytohmgidmfabimaa
open Go.RowKit Go.Shelf

attribute [local go_sem] Oper.semAt_some

/-- It was left at what is too deep, and at nothing ahead of it. -/
def StopD (pre : List (Int × Sc)) : Prop := ∃ p x, pre = p ++ [x] ∧ mxD p 0 ≤ 16 ∧ 16 < mxD pre 0

set_option maxRecDepth 100000 in
set_option maxHeartbeats 1000000 in
theorem Deep_any (s : Sc) (w : World) (hin : s.In w.heap.size w) : Calls Try.prog 8 #[s.val] w (RetV w (.int .i64 (deepT 17 s.er))) := by
  rw [← deep_all]
  refine (callsIn_wide (n := 6)).1 ?_
  have HIN := Lib.hid hin
  clear hin
  obtain ⟨k0, A, c, l⟩ := s
  simp only [val_mk]
  refine callsIn_of_wp_marks Try.func8 rfl trivial ?_ rfl
  simp only [Try.ntmps8, List.size_toArray, List.length_cons, List.length_nil, Nat.reduceAdd, Nat.reduceSub, Array.replicate_succ, Array.replicate_zero, List.push_toArray, List.append_toArray, List.nil_append, List.cons_append]
  gi_wp2_with fail
  refine ⟨trivial, (callsIn_wide.2 (nested_any (.mk k0 A c l) _)).mono ?_⟩
  rintro e w' ⟨rfl, rfl⟩
  gi_wp2_with fail
  have hB0 : Below w.heap.size w ((((w.alloc (.cells #[.int .i64 k0, .slice A l.length c] 24)).alloc (.cells #[.int .i64 0] 3)).alloc (.cells #[.int .i64 (Sc.mk k0 A c l).k, (Sc.mk k0 A c l).v1] 24)).alloc (.cells #[.func (.func 17) #[] #[]] 36)) := belAl (belAl (belAl (belAl (Below.refl _ _))))
  have hsz : ((((w.alloc (.cells #[.int .i64 k0, .slice A l.length c] 24)).alloc (.cells #[.int .i64 0] 3)).alloc (.cells #[.int .i64 (Sc.mk k0 A c l).k, (Sc.mk k0 A c l).v1] 24)).alloc (.cells #[.func (.func 17) #[] #[]] 36)).heap.size = w.heap.size + 4 := by simp
  have bR : Boxed ((((w.alloc (.cells #[.int .i64 k0, .slice A l.length c] 24)).alloc (.cells #[.int .i64 0] 3)).alloc (.cells #[.int .i64 (Sc.mk k0 A c l).k, (Sc.mk k0 A c l).v1] 24)).alloc (.cells #[.func (.func 17) #[] #[]] 36)) (w.heap.size + 1) 3 (.int .i64 0) := by
    have := Boxed.new (w.alloc (.cells #[.int .i64 k0, .slice A l.length c] 24)) 3 (.int .i64 0)
    rw [World.size_alloc] at this
    exact (this.alloc _).alloc _
  have cT0 : ((((w.alloc (.cells #[.int .i64 k0, .slice A l.length c] 24)).alloc (.cells #[.int .i64 0] 3)).alloc (.cells #[.int .i64 (Sc.mk k0 A c l).k, (Sc.mk k0 A c l).v1] 24)).alloc (.cells #[.func (.func 17) #[] #[]] 36)).cell? ⟨w.heap.size + 1 + 1, 0, none⟩ = some (.int .i64 (Sc.mk k0 A c l).k) := (World.cell?_alloc_past _ _ _ (by simp)).trans (cell_at_new (by simp) rfl)
  have cT1 : ((((w.alloc (.cells #[.int .i64 k0, .slice A l.length c] 24)).alloc (.cells #[.int .i64 0] 3)).alloc (.cells #[.int .i64 (Sc.mk k0 A c l).k, (Sc.mk k0 A c l).v1] 24)).alloc (.cells #[.func (.func 17) #[] #[]] 36)).cell? ⟨w.heap.size + 1 + 1, 1, none⟩ = some (Sc.mk k0 A c l).v1 := (World.cell?_alloc_past _ _ _ (by simp)).trans (cell_at_new (by simp) rfl)
  have cI : ((((w.alloc (.cells #[.int .i64 k0, .slice A l.length c] 24)).alloc (.cells #[.int .i64 0] 3)).alloc (.cells #[.int .i64 (Sc.mk k0 A c l).k, (Sc.mk k0 A c l).v1] 24)).alloc (.cells #[.func (.func 17) #[] #[]] 36)).cell? ⟨w.heap.size + 1 + 1 + 1, 0, none⟩ = some (.func (.func 17) #[] #[]) := cell_at_new (by simp) rfl
  generalize ((((w.alloc (.cells #[.int .i64 k0, .slice A l.length c] 24)).alloc (.cells #[.int .i64 0] 3)).alloc (.cells #[.int .i64 (Sc.mk k0 A c l).k, (Sc.mk k0 A c l).v1] 24)).alloc (.cells #[.func (.func 17) #[] #[]] 36)) = V0 at *
  have hin0 : (Sc.mk k0 A c l).Inp (fun b => b ≠ w.heap.size + 1) V0 := (Sc.In.keep HIN.out hB0).mono fun b hb => by omega
  refine wpIn_rangeFunc_ownG rfl (by omega) (gf := 25) (lb := #[.pointer (some ⟨w.heap.size + 1 + 1, 0, none⟩), .pointer (some ⟨w.heap.size + 1 + 1 + 1, 0, none⟩)]) rfl trivial (enters_of Try.func25 (by kernel_rfl) rfl)
    (nested_stops 5 (w.heap.size + 1 + 1) (w.heap.size + 1 + 1 + 1) (w.heap.size + 1) (.mk k0 A c l) V0 hin0 (by omega) cT0 cT1 cI) KC.trans (KC.book (w := V0)) (Below.refl _ _) (fun _ => rfl)
    (fun (pre : List (Int × Sc)) W => (Boxed W (w.heap.size + 1) 3 (.int .i64 (mxD pre 0)) ∧ Below w.heap.size w W) ∧ mxD pre 0 ≤ 16)
    (fun cd (pre : List (Int × Sc)) W => (Boxed W (w.heap.size + 1) 3 (.int .i64 (mxD pre 0)) ∧ Below w.heap.size w W) ∧ cd = .exit 0 ∧ StopD pre)
    (OwnFrom.and (OwnFrom.and (Own.from (boxed_own _ _ fun (pre : List (Int × Sc)) => .int .i64 (mxD pre 0)) _) (ownFrom_below (Nat.le_refl _) (by omega))) (ownFrom_pure _ _))
    (fun cd => OwnFrom.and (OwnFrom.and (Own.from (boxed_own _ _ fun (pre : List (Int × Sc)) => .int .i64 (mxD pre 0)) _) (ownFrom_below (Nat.le_refl _) (by omega))) (ownFrom_pure _ _))
    ⟨⟨bR, hB0⟩, by decide⟩
    (fun x => { tmps := #[.agg #[.int .i64 k0, .slice A l.length c], .pointer (some ⟨w.heap.size, 0, none⟩), .int .i64 0, .pointer (some ⟨w.heap.size + 1, 0, none⟩), .int .i64 x.1, .agg #[.int .i64 k0, .slice A l.length c],
        .func (.func 25) #[] #[.pointer (some ⟨w.heap.size + 1 + 1, 0, none⟩), .pointer (some ⟨w.heap.size + 1 + 1 + 1, 0, none⟩)], .int .i64 x.1, x.2.val, undef, undef, undef, undef, undef, undef], defers := [] })
    ?assign ?body ?done ?stop
  case assign =>
    intro l0 x W K hK
    unfold encD
    gi_wp2
    exact hK
  case body =>
    rintro l0 pre ⟨d, x⟩ W ⟨⟨hR, hB⟩, hp⟩ hlt
    have hcl := hR.cell
    have hcf := hR.frozen
    have hms := mxD_snoc pre (d, x) 0
    simp only at hms
    have hlw : w.heap.size + 1 < V0.heap.size := by omega
    clear hsz
    have hR1 : Boxed (W.setCell ⟨w.heap.size + 1, 0, none⟩ (.int .i64 (max (mxD pre 0) d))) (w.heap.size + 1) 3 (.int .i64 (mxD (pre ++ [(d, x)]) 0)) := by rw [hms]; exact hR.set _
    have hB1 : Below w.heap.size w (W.setCell ⟨w.heap.size + 1, 0, none⟩ (.int .i64 (max (mxD pre 0) d))) := hB.setCell (by simp) _
    have hkf : KeepsFrom V0.heap.size W (W.setCell ⟨w.heap.size + 1, 0, none⟩ (.int .i64 (max (mxD pre 0) d))) := KeepsFrom.of_grownBy (grownBy_setCell' _ _ _) (fun j e => by cases e; exact hlw)
    have hkc : KC (w.heap.size + 1) W (W.setCell ⟨w.heap.size + 1, 0, none⟩ (.int .i64 (max (mxD pre 0) d))) := ⟨by simp, fun b o h1 _ h3 => (Below.heap_setCell _ _ _ _ h3).trans h1⟩
    have HA := Lib.hid (And.intro hR1 (And.intro hB1 (And.intro hkf (And.intro hkc (And.intro hms hp)))))
    clear hR1 hB1 hkf hkc hms hp hB hR
    by_cases h16 : max (mxD pre 0) d ≤ 16
    · have hn16 : ¬ 16 < max (mxD pre 0) d := by omega
      gi_wp2_with fail
      obtain ⟨hR1, hB1, hkf, hkc, hms, hp⟩ := HA.out
      exact ⟨hkf, hkc, ⟨hR1, hB1⟩, by rw [hms]; exact h16⟩
    · have h17 : 16 < max (mxD pre 0) d := by omega
      gi_wp2_with fail
      obtain ⟨hR1, hB1, hkf, hkc, hms, hp⟩ := HA.out
      exact ⟨hkf, ⟨hR1, hB1⟩, rfl, pre, (d, x), rfl, hp, by rw [hms]; exact h17⟩
  case done =>
    rintro D zs W hD rfl ⟨⟨hR, hB⟩, hp⟩ hK
    have hcl := hR.cell
    have HP : Hid (dpD 0 (preS (Sc.mk k0 A c l) 1) = mxD (preS (Sc.mk k0 A c l) 1) 0) := by
      have := dpD_go (preS (Sc.mk k0 A c l) 1) [] 0 hp
      rw [List.append_nil] at this
      exact this
    clear hp
    gi_wp2
    refine ⟨by simp, .inl ⟨_, _, rfl, run_takeDeferred hK, ?_⟩⟩
    refine ⟨_, results_tmp rfl _ _ _, ?_⟩
    exact ⟨by rw [HP.out]; rfl, hB.trans (belowK_b (w := w) (Nat.le_refl _) W D _ _ (by omega) hK rfl rfl)⟩
  case stop =>
    rintro D cd pre W hD hpre ⟨⟨hR, hB⟩, rfl, p, x, hpx, hp, hg⟩ hK
    have hcl := hR.cell
    have HP : Hid (dpD 0 (preS (Sc.mk k0 A c l) 1) = mxD pre 0) := by
      obtain ⟨r, hr⟩ := hpre
      show dpD 0 _ = _
      rw [← hr, hpx]
      rw [hpx] at hg
      exact dpD_stop p r x 0 hp hg
    clear hp hpx hg
    gi_wp2
    refine ⟨by simp, .inl ⟨_, _, rfl, run_takeDeferred hK, ?_⟩⟩
    refine ⟨_, results_tmp rfl _ _ _, ?_⟩
    exact ⟨by rw [HP.out]; rfl, hB.trans (belowK_b (w := w) (Nat.le_refl _) W D _ _ (by omega) hK rfl rfl)⟩
end Go.Proofs.Ytohmgidmfabimaa
