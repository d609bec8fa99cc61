/- What SchemaTells does: it answers true. No condition but that the schemas lie in memory. -/
import Derived.Test.YtohmgidmfabimaaPsm
namespace Go.Proofs.Ytohmgidmfabimaa
open Go.RowKit

set_option maxRecDepth 100000 in
set_option maxHeartbeats 8000000 in
theorem schemaTells_all (s t : Sc) (w : World) (hin : s.In w.heap.size w) (hin' : t.In w.heap.size w) : Calls Try.prog 3 #[s.val, t.val] w (RetV w (.bool true)) := by
  obtain ⟨k0, A, c, l⟩ := s
  obtain ⟨k1, A', c', l'⟩ := t
  simp only [val_mk]
  have hbw : Below w.heap.size w ((w.alloc (.cells #[.int .i64 k0, .slice A l.length c] 24)).alloc (.cells #[.int .i64 k1, .slice A' l'.length c'] 24)) := belAl (belAl (Below.refl _ _))
  have hA0 : At ((w.alloc (.cells #[.int .i64 k0, .slice A l.length c] 24)).alloc (.cells #[.int .i64 k1, .slice A' l'.length c'] 24)) w.heap.size (.mk k0 A c l) := ⟨hin.later hbw, (World.cell?_alloc_past _ _ _ (by simp)).trans (cell_at_new rfl rfl), (World.cell?_alloc_past _ _ _ (by simp)).trans (cell_at_new rfl rfl), by simp; omega⟩
  have hB0 : At ((w.alloc (.cells #[.int .i64 k0, .slice A l.length c] 24)).alloc (.cells #[.int .i64 k1, .slice A' l'.length c'] 24)) (w.heap.size + 1) (.mk k1 A' c' l') := ⟨hin'.later hbw, cell_at_new (by simp) rfl, cell_at_new (by simp) rfl, by simp⟩
  have HA0 := Lib.hid hA0
  have HB0 := Lib.hid hB0
  have HW0 := Lib.hid hbw
  obtain ⟨q1, hq1⟩ : ∃ q, isT 16 (Sc.mk k0 A c l).er = q := ⟨_, rfl⟩
  obtain ⟨q2, hq2⟩ : ∃ q : Int, deepT 17 (Sc.mk k0 A c l).er = q := ⟨_, rfl⟩
  obtain ⟨q3, hq3⟩ : ∃ q, decide ((Sc.mk k0 A c l).er = (Sc.mk k1 A' c' l').er) = q := ⟨_, rfl⟩
  obtain ⟨q4, hq4⟩ : ∃ q, levelT (Sc.mk k0 A c l).er = q := ⟨_, rfl⟩
  have HQ1 := Lib.hid hq1
  have HQ2 := Lib.hid hq2
  have HQ3 := Lib.hid hq3
  have HQ4 := Lib.hid hq4
  clear hin hin' hbw hA0 hB0 hq1 hq2 hq3 hq4
  go_enter Try.func3, Try.ntmps3
  go_wp2_with fail
  refine (known_any _).mono ?_
  rintro e w1 ⟨rfl, hb1⟩
  have HA := Lib.hid ((HA0.out.later hb1).later (drewB _))
  have HB := Lib.hid ((HB0.out.later hb1).later (drewB _))
  have HW := Lib.hid (Below.drew (HW0.out.trans (hb1.mono HW0.out.size)))
  have a0 : w1.cell? ⟨w.heap.size, 0, none⟩ = some (.int .i64 k0) := (HA0.out.later hb1).c0
  have a1 : w1.cell? ⟨w.heap.size, 1, none⟩ = some (.slice A l.length c) := (HA0.out.later hb1).c1
  have b0 : w1.cell? ⟨w.heap.size + 1, 0, none⟩ = some (.int .i64 k1) := (HB0.out.later hb1).c0
  have b1 : w1.cell? ⟨w.heap.size + 1, 1, none⟩ = some (.slice A' l'.length c') := (HB0.out.later hb1).c1
  clear hb1 HA0 HB0 HW0
  go_wp2_with fail
  go_region_held3 (fun w' => w'.cell? ⟨w.heap.size, 0, none⟩ = some (.int .i64 k0) ∧ w'.cell? ⟨w.heap.size, 1, none⟩ = some (.slice A l.length c) ∧ w'.cell? ⟨w.heap.size + 1, 0, none⟩ = some (.int .i64 k1) ∧ w'.cell? ⟨w.heap.size + 1, 1, none⟩ = some (.slice A' l'.length c'))
    (first
      | exact ⟨a0, a1, b0, b1⟩)
    (first
      | (go_at_call 6; refine (Is_any (.mk k0 A c l) _ HA.out.inn).mono ?_; rintro e wj ⟨rfl, hbj⟩; (rw [HQ1.out]; replace a0 : wj.cell? ⟨w.heap.size, 0, none⟩ = some (.int .i64 k0) := (HA.out.later hbj).c0; replace a1 : wj.cell? ⟨w.heap.size, 1, none⟩ = some (.slice A l.length c) := (HA.out.later hbj).c1; replace b0 : wj.cell? ⟨w.heap.size + 1, 0, none⟩ = some (.int .i64 k1) := (HB.out.later hbj).c0; replace b1 : wj.cell? ⟨w.heap.size + 1, 1, none⟩ = some (.slice A' l'.length c') := (HB.out.later hbj).c1; replace HA := Lib.hid (HA.out.later hbj); replace HB := Lib.hid (HB.out.later hbj); replace HW := Lib.hid (HW.out.trans (hbj.mono HW.out.size)); clear hbj))
      | (go_at_call 7; refine (refIs_any (.mk k0 A c l) _ HA.out.inn).mono ?_; rintro e wj ⟨rfl, hbj⟩; (rw [HQ1.out]; replace a0 : wj.cell? ⟨w.heap.size, 0, none⟩ = some (.int .i64 k0) := (HA.out.later hbj).c0; replace a1 : wj.cell? ⟨w.heap.size, 1, none⟩ = some (.slice A l.length c) := (HA.out.later hbj).c1; replace b0 : wj.cell? ⟨w.heap.size + 1, 0, none⟩ = some (.int .i64 k1) := (HB.out.later hbj).c0; replace b1 : wj.cell? ⟨w.heap.size + 1, 1, none⟩ = some (.slice A' l'.length c') := (HB.out.later hbj).c1; replace HA := Lib.hid (HA.out.later hbj); replace HB := Lib.hid (HB.out.later hbj); replace HW := Lib.hid (HW.out.trans (hbj.mono HW.out.size)); clear hbj))
      | (go_at_call 8; refine (Deep_any (.mk k0 A c l) _ HA.out.inn).mono ?_; rintro e wj ⟨rfl, hbj⟩; (rw [HQ2.out]; replace a0 : wj.cell? ⟨w.heap.size, 0, none⟩ = some (.int .i64 k0) := (HA.out.later hbj).c0; replace a1 : wj.cell? ⟨w.heap.size, 1, none⟩ = some (.slice A l.length c) := (HA.out.later hbj).c1; replace b0 : wj.cell? ⟨w.heap.size + 1, 0, none⟩ = some (.int .i64 k1) := (HB.out.later hbj).c0; replace b1 : wj.cell? ⟨w.heap.size + 1, 1, none⟩ = some (.slice A' l'.length c') := (HB.out.later hbj).c1; replace HA := Lib.hid (HA.out.later hbj); replace HB := Lib.hid (HB.out.later hbj); replace HW := Lib.hid (HW.out.trans (hbj.mono HW.out.size)); clear hbj))
      | (go_at_call 9; refine (refDeep_any (.mk k0 A c l) _ HA.out.inn).mono ?_; rintro e wj ⟨rfl, hbj⟩; (rw [HQ2.out]; replace a0 : wj.cell? ⟨w.heap.size, 0, none⟩ = some (.int .i64 k0) := (HA.out.later hbj).c0; replace a1 : wj.cell? ⟨w.heap.size, 1, none⟩ = some (.slice A l.length c) := (HA.out.later hbj).c1; replace b0 : wj.cell? ⟨w.heap.size + 1, 0, none⟩ = some (.int .i64 k1) := (HB.out.later hbj).c0; replace b1 : wj.cell? ⟨w.heap.size + 1, 1, none⟩ = some (.slice A' l'.length c') := (HB.out.later hbj).c1; replace HA := Lib.hid (HA.out.later hbj); replace HB := Lib.hid (HB.out.later hbj); replace HW := Lib.hid (HW.out.trans (hbj.mono HW.out.size)); clear hbj))
      | (go_at_call 10; refine (same_any (.mk k0 A c l) (.mk k1 A' c' l') _ HA.out.inn HB.out.inn).mono ?_; rintro e wj ⟨rfl, hbj⟩; (rw [HQ3.out]; replace a0 : wj.cell? ⟨w.heap.size, 0, none⟩ = some (.int .i64 k0) := (HA.out.later hbj).c0; replace a1 : wj.cell? ⟨w.heap.size, 1, none⟩ = some (.slice A l.length c) := (HA.out.later hbj).c1; replace b0 : wj.cell? ⟨w.heap.size + 1, 0, none⟩ = some (.int .i64 k1) := (HB.out.later hbj).c0; replace b1 : wj.cell? ⟨w.heap.size + 1, 1, none⟩ = some (.slice A' l'.length c') := (HB.out.later hbj).c1; replace HA := Lib.hid (HA.out.later hbj); replace HB := Lib.hid (HB.out.later hbj); replace HW := Lib.hid (HW.out.trans (hbj.mono HW.out.size)); clear hbj))
      | (go_at_call 12; refine (Level_any (.mk k0 A c l) _ HA.out.inn).mono ?_; rintro e wj ⟨rfl, hbj⟩; (rw [HQ4.out]; replace a0 : wj.cell? ⟨w.heap.size, 0, none⟩ = some (.int .i64 k0) := (HA.out.later hbj).c0; replace a1 : wj.cell? ⟨w.heap.size, 1, none⟩ = some (.slice A l.length c) := (HA.out.later hbj).c1; replace b0 : wj.cell? ⟨w.heap.size + 1, 0, none⟩ = some (.int .i64 k1) := (HB.out.later hbj).c0; replace b1 : wj.cell? ⟨w.heap.size + 1, 1, none⟩ = some (.slice A' l'.length c') := (HB.out.later hbj).c1; replace HA := Lib.hid (HA.out.later hbj); replace HB := Lib.hid (HB.out.later hbj); replace HW := Lib.hid (HW.out.trans (hbj.mono HW.out.size)); clear hbj))
      | (go_at_call 13; refine (refLevel_any (.mk k0 A c l) _ HA.out.inn).mono ?_; rintro e wj ⟨rfl, hbj⟩; (rw [HQ4.out]; replace a0 : wj.cell? ⟨w.heap.size, 0, none⟩ = some (.int .i64 k0) := (HA.out.later hbj).c0; replace a1 : wj.cell? ⟨w.heap.size, 1, none⟩ = some (.slice A l.length c) := (HA.out.later hbj).c1; replace b0 : wj.cell? ⟨w.heap.size + 1, 0, none⟩ = some (.int .i64 k1) := (HB.out.later hbj).c0; replace b1 : wj.cell? ⟨w.heap.size + 1, 1, none⟩ = some (.slice A' l'.length c') := (HB.out.later hbj).c1; replace HA := Lib.hid (HA.out.later hbj); replace HB := Lib.hid (HB.out.later hbj); replace HW := Lib.hid (HW.out.trans (hbj.mono HW.out.size)); clear hbj))
      | (go_at_call 14; refine (cause_any (.mk k0 A c l) _ HA.out.inn).mono ?_; rintro e wc ⟨⟨ck, cA, cc, cl⟩, rfl, hce, hci, hbc⟩; (have HCE := Lib.hid hce; have HCI : Hid ((Sc.mk ck cA cc cl).In wc.heap.size wc) := Sc.Inp.mono hci (fun _ h => h.2); replace a0 : wc.cell? ⟨w.heap.size, 0, none⟩ = some (.int .i64 k0) := (HA.out.later hbc).c0; replace a1 : wc.cell? ⟨w.heap.size, 1, none⟩ = some (.slice A l.length c) := (HA.out.later hbc).c1; replace b0 : wc.cell? ⟨w.heap.size + 1, 0, none⟩ = some (.int .i64 k1) := (HB.out.later hbc).c0; replace b1 : wc.cell? ⟨w.heap.size + 1, 1, none⟩ = some (.slice A' l'.length c') := (HB.out.later hbc).c1; replace HA := Lib.hid (HA.out.later hbc); replace HB := Lib.hid (HB.out.later hbc); replace HW := Lib.hid (HW.out.trans (hbc.mono HW.out.size)); clear hbc hce hci; simp only [val_mk]))
      | (go_at_call 15; refine (refcause_any (.mk k0 A c l) _ HA.out.inn).mono ?_; rintro e wd ⟨⟨dk, dA, dc, dl⟩, rfl, hde, hdi, hbd⟩; (have HDE := Lib.hid hde; have HDI := Lib.hid hdi; replace HCI := Lib.hid (HCI.out.later hbd); replace a0 : wd.cell? ⟨w.heap.size, 0, none⟩ = some (.int .i64 k0) := (HA.out.later hbd).c0; replace a1 : wd.cell? ⟨w.heap.size, 1, none⟩ = some (.slice A l.length c) := (HA.out.later hbd).c1; replace b0 : wd.cell? ⟨w.heap.size + 1, 0, none⟩ = some (.int .i64 k1) := (HB.out.later hbd).c0; replace b1 : wd.cell? ⟨w.heap.size + 1, 1, none⟩ = some (.slice A' l'.length c') := (HB.out.later hbd).c1; replace HA := Lib.hid (HA.out.later hbd); replace HB := Lib.hid (HB.out.later hbd); replace HW := Lib.hid (HW.out.trans (hbd.mono HW.out.size)); clear hbd hde hdi; simp only [val_mk]))
      | (go_at_call 11; refine (refsame_any (.mk ck cA cc cl) (.mk dk dA dc dl) _ HCI.out HDI.out).mono ?_; rintro e wj ⟨rfl, hbj⟩; (rw [HCE.out, HDE.out, decide_eq_true rfl]; replace a0 : wj.cell? ⟨w.heap.size, 0, none⟩ = some (.int .i64 k0) := (HA.out.later hbj).c0; replace a1 : wj.cell? ⟨w.heap.size, 1, none⟩ = some (.slice A l.length c) := (HA.out.later hbj).c1; replace b0 : wj.cell? ⟨w.heap.size + 1, 0, none⟩ = some (.int .i64 k1) := (HB.out.later hbj).c0; replace b1 : wj.cell? ⟨w.heap.size + 1, 1, none⟩ = some (.slice A' l'.length c') := (HB.out.later hbj).c1; replace HA := Lib.hid (HA.out.later hbj); replace HB := Lib.hid (HB.out.later hbj); replace HW := Lib.hid (HW.out.trans (hbj.mono HW.out.size)); clear hbj))
      | (go_at_call 11; refine (refsame_any (.mk k0 A c l) (.mk k1 A' c' l') _ HA.out.inn HB.out.inn).mono ?_; rintro e wj ⟨rfl, hbj⟩; (rw [HQ3.out]; replace a0 : wj.cell? ⟨w.heap.size, 0, none⟩ = some (.int .i64 k0) := (HA.out.later hbj).c0; replace a1 : wj.cell? ⟨w.heap.size, 1, none⟩ = some (.slice A l.length c) := (HA.out.later hbj).c1; replace b0 : wj.cell? ⟨w.heap.size + 1, 0, none⟩ = some (.int .i64 k1) := (HB.out.later hbj).c0; replace b1 : wj.cell? ⟨w.heap.size + 1, 1, none⟩ = some (.slice A' l'.length c') := (HB.out.later hbj).c1; replace HA := Lib.hid (HA.out.later hbj); replace HB := Lib.hid (HB.out.later hbj); replace HW := Lib.hid (HW.out.trans (hbj.mono HW.out.size)); clear hbj)))
  go_wp2_with fail
  go_ret
  exact ⟨rfl, HW.out⟩
end Go.Proofs.Ytohmgidmfabimaa
