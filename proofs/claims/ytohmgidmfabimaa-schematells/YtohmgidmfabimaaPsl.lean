/- What schema.causal and schema.Level do. No condition but that the schema lies in memory (and, of causal, is one). -/
import Derived.Test.YtohmgidmfabimaaPsk
namespace Go.Proofs.Ytohmgidmfabimaa
open Go.RowKit

set_option maxHeartbeats 1000000 in
theorem causal_any (s : Sc) (w : World) (hin : s.In w.heap.size w) (his : isT 16 s.er = true) : Calls Try.prog 22 #[s.val] w (RetV w (.bool (causalT s.er))) := by
  obtain ⟨k0, A, c, l⟩ := s
  simp only [val_mk]
  by_cases h8 : k0 = 8
  · subst h8
    obtain ⟨x, rfl, hx15⟩ := is_cause his rfl
    obtain ⟨hl, -, -, hall⟩ := hin.out
    have hxin := hall x (by simp)
    obtain ⟨b, off, rfl, hb1, hc0, hc1⟩ := lies_first hl
    clear hl hall
    obtain ⟨xk, xA, xc, xl⟩ := x
    simp only [Sc.k, Sc.v1] at hc0 hc1
    have hba := allocB w (.cells #[.int .i64 8, .slice (some ⟨b, off, none⟩) 1 c] 24)
    by_cases h5 : xk = 5
    · subst h5
      obtain ⟨y, z, rfl⟩ := is_pair hx15 rfl
      obtain ⟨hl1, -, -, hall1⟩ := hxin.out
      obtain ⟨b', off', rfl, hb1', he0, he1⟩ := lies_first hl1
      have hyin := hall1 y (by simp)
      clear hall1 hl1 hxin hin his hx15
      obtain ⟨yk, yA, yc, yl⟩ := y
      simp only [Sc.k, Sc.v1] at he0 he1
      rw [causal_lean]
      obtain ⟨q, hq⟩ : ∃ q, decide ((Sc.mk yk yA yc yl).er = leanT) = q := ⟨_, rfl⟩
      rw [hq]
      have HQ := Lib.hid hq
      clear hq
      have g0 := (hba.cell (p := ⟨b, off, none⟩) hb1).trans hc0
      have g1 : (w.alloc (.cells #[.int .i64 8, .slice (some ⟨b, off, none⟩) 1 c] 24)).cell? ⟨b, off + 1, none⟩ = some (.slice (some ⟨b', off', none⟩) 2 xc) := (hba.cell (p := ⟨b, off + 1, none⟩) hb1).trans hc1
      have g2 := (hba.cell (p := ⟨b', off', none⟩) hb1').trans he0
      have g3 := (hba.cell (p := ⟨b', off' + 1, none⟩) hb1').trans he1
      have g4 : (w.alloc (.cells #[.int .i64 8, .slice (some ⟨b, off, none⟩) 1 c] 24)).cell? ⟨w.heap.size, 0, none⟩ = some (.int .i64 8) := by simp
      have g5 : (w.alloc (.cells #[.int .i64 8, .slice (some ⟨b, off, none⟩) 1 c] 24)).cell? ⟨w.heap.size, 1, none⟩ = some (.slice (some ⟨b, off, none⟩) 1 c) := by simp
      have HW := Lib.hid hba
      have hsw : (w.alloc (.cells #[.int .i64 8, .slice (some ⟨b, off, none⟩) 1 c] 24)).heap.size = w.heap.size + 1 := by simp
      have HY := Lib.hid ((hyin.later hba).later (drewB _))
      clear hyin hba hc0 hc1 he0 he1
      go_enter Try.func22, Try.ntmps22
      go_wp2_with fail
      generalize hW1 : w.alloc (.cells #[.int .i64 8, .slice (some ⟨b, off, none⟩) 1 c] 24) = W1 at *
      clear hW1
      have l0 : w.heap.size < W1.heap.size := by omega
      have l1 : b < W1.heap.size := by omega
      have l2 : b' < W1.heap.size := by omega
      clear hsw
      go_region_held3 (fun w' => w'.cell? ⟨w.heap.size, 1, none⟩ = some (.slice (some ⟨b, off, none⟩) 1 c) ∧ w'.cell? ⟨b, off + 1, none⟩ = some (.slice (some ⟨b', off', none⟩) 2 xc) ∧
          w'.cell? ⟨b', off', none⟩ = some (.int .i64 yk) ∧ w'.cell? ⟨b', off' + 1, none⟩ = some (.slice yA yl.length yc))
        (first
          | exact ⟨g5, g1, g2, g3⟩
          | exact ⟨(hlb.cell l0).trans g5, (hlb.cell l1).trans g1, (hlb.cell l2).trans g2, (hlb.cell l2).trans g3⟩
          | exact ⟨(hb3.cell l0).trans g5, (hb3.cell l1).trans g1, (hb3.cell l2).trans g2, (hb3.cell l2).trans g3⟩)
        (first
          | (go_at_call 23; refine (leaning_any _).mono ?_; rintro e wl ⟨⟨lk, lA, lc, ll⟩, rfl, hle, hli, hlb⟩; (have HLI := Lib.hid (Sc.Inp.mono hli (Q := fun b => b < wl.heap.size) fun _ h => h.2); have HLE := Lib.hid hle; clear hli hle; simp only [val_mk]))
          | (go_at_call 10; refine (callV (w := W1.drew) hlb (same_any (.mk yk yA yc yl) (.mk lk lA lc ll) _ (HY.out.later hlb) HLI.out)).mono ?_; rintro e w3 ⟨rfl, hb3⟩; (rw [HLE.out, HQ.out])))
      go_wp2_with fail
      go_ret
      have hb4 := HW.out.trans ((drewB W1).mono HW.out.size)
      exact ⟨rfl, hb4.trans (hb3.mono hb4.size)⟩
    · rw [causal_k1 (x := .mk xk xA xc xl) h5]
      have g0 := (hba.cell (p := ⟨b, off, none⟩) hb1).trans hc0
      clear hin his hx15 hxin
      go_enter Try.func22, Try.ntmps22
      go_wp2_with fail
      go_ret
      exact ⟨rfl, hba⟩
  · rw [causal_k (by rw [er_k]; exact h8)]
    clear hin his
    go_enter Try.func22, Try.ntmps22
    go_wp2_with fail
    go_ret
    exact ⟨rfl, allocB _ _⟩

set_option maxHeartbeats 1000000 in
theorem Level_any (s : Sc) (w : World) (hin : s.In w.heap.size w) : Calls Try.prog 12 #[s.val] w (RetV w (.int .i64 (levelT s.er))) := by
  obtain ⟨k0, A, c, l⟩ := s
  have HI0 := Lib.hid hin
  have hba := allocB w (.cells #[.int .i64 k0, .slice A l.length c] 24)
  have hT := Is_any (.mk k0 A c l) _ (hin.later hba)
  have HW := Lib.hid hba
  clear hin hba
  simp only [val_mk]
  obtain ⟨q, hq⟩ : ∃ q, isT 16 (Sc.mk k0 A c l).er = q := ⟨_, rfl⟩
  rw [hq] at hT
  have HT := Lib.hid hT
  have HQ := Lib.hid hq
  clear hT hq
  cases q with
  | false =>
    rw [level_not HQ.out]
    go_enter Try.func12, Try.ntmps12
    go_wp2_with fail
    refine (callV HW.out HT.out).mono ?_
    rintro e w' ⟨rfl, hb⟩
    go_wp2_with fail
    go_ret
    exact ⟨rfl, hb⟩
  | true =>
    by_cases h6 : k0 = 6
    · rw [level_last HQ.out (by rw [er_k]; exact h6)]
      subst h6
      go_enter Try.func12, Try.ntmps12
      go_wp2_with fail
      refine HT.out.mono ?_
      rintro e w' ⟨rfl, hb⟩
      have hbox : w'.cell? ⟨w.heap.size, 0, none⟩ = some (.int .i64 6) := (hb.cell (p := ⟨w.heap.size, 0, none⟩) (by simp)).trans (by simp)
      have hbw := HW.out.trans (hb.mono HW.out.size)
      clear hb
      go_wp2_with fail
      go_ret
      exact ⟨rfl, hbw⟩
    · have h6' : (Sc.mk k0 A c l).er.k ≠ 6 := by rw [er_k]; exact h6
      obtain ⟨q, hq⟩ : ∃ q, causalT (Sc.mk k0 A c l).er = q := ⟨_, rfl⟩
      have HR : Hid (levelT (Sc.mk k0 A c l).er = lv3 q) := by
        show levelT _ = _
        cases q with
        | true => exact level_cause HQ.out h6' hq
        | false => exact level_plain HQ.out h6' hq
      have HC := Lib.hid hq
      clear hq h6'
      rw [HR.out]
      go_enter Try.func12, Try.ntmps12
      go_wp2_with fail
      refine HT.out.mono ?_
      rintro e w' ⟨rfl, hb⟩
      have hbox : w'.cell? ⟨w.heap.size, 0, none⟩ = some (.int .i64 k0) := (hb.cell (p := ⟨w.heap.size, 0, none⟩) (by simp)).trans (by simp)
      have hbox1 : w'.cell? ⟨w.heap.size, 1, none⟩ = some (.slice A l.length c) := (hb.cell (p := ⟨w.heap.size, 1, none⟩) (by simp)).trans (by simp)
      have hbw := HW.out.trans (hb.mono HW.out.size)
      clear hb
      go_wp2_with fail
      refine (callV hbw (causal_any (.mk k0 A c l) w' (HI0.out.later hbw) HQ.out)).mono ?_
      rintro e w2 ⟨rfl, hb2⟩
      rw [HC.out]
      cases q with
      | true =>
        go_wp2_with fail
        go_ret
        exact ⟨rfl, hb2⟩
      | false =>
        go_wp2_with fail
        go_ret
        exact ⟨rfl, hb2⟩
end Go.Proofs.Ytohmgidmfabimaa
