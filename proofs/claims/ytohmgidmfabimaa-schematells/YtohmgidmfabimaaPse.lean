/- What schema.fresh does. No condition but that the schema lies in memory. -/
import Derived.Test.YtohmgidmfabimaaPsd
namespace Go.Proofs.Ytohmgidmfabimaa
open Go.RowKit

set_option maxHeartbeats 1000000 in
theorem fresh_any : ∀ (s : Sc) (w : World), s.In w.heap.size w → Calls Try.prog 24 #[s.val] w (RetN w s.er) := by
  intro s
  induction s using Sc.ind with
  | h k0 A c l ih =>
    intro w hin
    have hbw : Below w.heap.size w ((w.alloc (.cells #[.int .i64 k0, .slice A l.length c] 24)).alloc (.cells #[.int .i64 0, .slice none 0 0] 24)).drew := (belAl (belAl (Below.refl _ _))).drew
    obtain ⟨hl, -, hc32, hall⟩ := (hin.later hbw).out
    have HR := Lib.hid (renewed_any A c l _ hl hc32 hall ih)
    have HB := Lib.hid hbw
    have HC := Lib.hid hc32
    clear hin ih hall hl hc32 hbw
    simp only [val_mk]
    go_enter Try.func24, Try.ntmps24
    go_wp2_with fail
    go_region_held3 (fun w' => w'.cell? ⟨w.heap.size, 0, none⟩ = some (.int .i64 k0) ∧ w'.cell? ⟨w.heap.size, 1, none⟩ = some (.slice A l.length c))
      (first
        | exact ⟨hp0, hp1⟩
        | (refine ⟨?_, ?_⟩ <;> go_simp))
      (first
        | (go_at_call 28; refine HR.out.mono ?_; rintro e w2 ⟨v, ys, rfl, he2, hown2, hb2⟩; (obtain ⟨A2, c2, rfl, hin2⟩ := hown2.form (by have := congrArg List.length he2; simp at this; have := HC.out; omega); have HI2 := Lib.hid hin2; have HE2 := Lib.hid he2; clear he2 hown2 hin2; have hq0 := hb2.cell (p := ⟨w.heap.size + 1, 0, none⟩) (by simp); have hq1 := hb2.cell (p := ⟨w.heap.size + 1, 1, none⟩) (by simp); have hp0 := hb2.cell (p := ⟨w.heap.size, 0, none⟩) (by simp; omega); have hp1 := hb2.cell (p := ⟨w.heap.size, 1, none⟩) (by simp; omega); have hf0 := hb2.frozen (p := ⟨w.heap.size + 1, 0, none⟩) (by simp); have hf1 := hb2.frozen (p := ⟨w.heap.size + 1, 1, none⟩) (by simp); simp at hq0 hq1 hf0 hf1 hp0 hp1)))
    go_wp2_with fail
    refine bodyPost_ret (results_cellS rfl _ _ (w.heap.size + 1) (.int .i64 k0) (.slice A2 ys.length c2) rfl (by go_simp) (by go_simp)) rfl ?_
    refine ⟨.mk k0 A2 c2 ys, rfl, by rw [er_mk, er_mk, HE2.out], ?_, ?_⟩
    · refine ((HI2.out k0).keep fun b hP => ?_).mono fun b hP => ?_
      · have h1 := hP.1
        simp at h1
        rw [Below.heap_setCell _ _ _ _ (by show b ≠ w.heap.size + 1; omega), Below.heap_setCell _ _ _ _ (by show b ≠ w.heap.size + 1; omega)]
      · have h1 := hP.1
        have h2 := hP.2
        simp at h1 h2 ⊢
        omega
    · have h := HB.out.trans (hb2.mono HB.out.size)
      exact (h.setCell (by simp) _).setCell (by simp) _
end Go.Proofs.Ytohmgidmfabimaa
