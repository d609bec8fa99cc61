/- What schema.Cause does. No condition but that the schema lies in memory. -/
import Derived.Test.YtohmgidmfabimaaPse
import Derived.Deep.DeepCutAuto
namespace Go.Proofs.Ytohmgidmfabimaa
open Go.RowKit

theorem drewB (w : World) : Below w.heap.size w w.drew := (Below.refl _ _).drew

/-- Where Cause stands when the pair is made. -/
structure MidC (w W : World) (pb b2 : Nat) (x y : Sc) : Prop where
  bel : Below w.heap.size w W
  hx : x.Inp (fun b => w.heap.size + 1 + 1 ≤ b ∧ b < W.heap.size) W
  hy : y.Inp (fun b => w.heap.size + 1 + 1 ≤ b ∧ b < W.heap.size) W
  q1 : w.heap.size + 1 + 1 ≤ b2
  q2 : b2 < W.heap.size
  c0 : W.cell? ⟨b2, 0, none⟩ = some (.int .i64 x.k)
  c1 : W.cell? ⟨b2, 1, none⟩ = some x.v1
  c2 : W.cell? ⟨b2, 2, none⟩ = some (.int .i64 y.k)
  c3 : W.cell? ⟨b2, 3, none⟩ = some y.v1
  d0 : W.cell? ⟨pb, 0, none⟩ = some (.int .i64 5)
  d1 : W.cell? ⟨pb, 1, none⟩ = some (.slice (some ⟨b2, 0, none⟩) 2 2)
  r0 : W.cell? ⟨w.heap.size + 1, 0, none⟩ = some (.int .i64 0)
  r1 : W.cell? ⟨w.heap.size + 1, 1, none⟩ = some (.slice none 0 0)
  f0 : W.frozen? ⟨w.heap.size + 1, 0, none⟩ = false
  f1 : W.frozen? ⟨w.heap.size + 1, 1, none⟩ = false

theorem mid_of {w wl wf W : World} {pb b2 : Nat} {x y : Sc} {PL PS : Nat → Prop} (hL : x.Inp PL wl) (hS : y.Inp PS wf) (hbW : Below w.heap.size w W) (hlf : ∀ b, b < wl.heap.size → wf.heap[b]? = wl.heap[b]?)
    (hLp : ∀ b, PL b → w.heap.size + 1 + 1 ≤ b ∧ b < wl.heap.size ∧ b ≠ pb) (hSp : ∀ b, PS b → w.heap.size + 1 + 1 ≤ b ∧ b < wf.heap.size ∧ b ≠ pb) (hsz : wl.heap.size ≤ wf.heap.size) (hsW : wf.heap.size ≤ W.heap.size)
    (hW : ∀ b, b < wf.heap.size → b ≠ pb → W.heap[b]? = wf.heap[b]?) (hp1 : w.heap.size + 1 + 1 ≤ pb) (hlt : w.heap.size + 1 < wf.heap.size)
    (hw0 : wf.cell? ⟨w.heap.size + 1, 0, none⟩ = some (.int .i64 0)) (hw1 : wf.cell? ⟨w.heap.size + 1, 1, none⟩ = some (.slice none 0 0)) (hw2 : wf.frozen? ⟨w.heap.size + 1, 0, none⟩ = false) (hw3 : wf.frozen? ⟨w.heap.size + 1, 1, none⟩ = false)
    (q1 : w.heap.size + 1 + 1 ≤ b2) (q2 : b2 < W.heap.size) (c0 : W.cell? ⟨b2, 0, none⟩ = some (.int .i64 x.k)) (c1 : W.cell? ⟨b2, 1, none⟩ = some x.v1) (c2 : W.cell? ⟨b2, 2, none⟩ = some (.int .i64 y.k)) (c3 : W.cell? ⟨b2, 3, none⟩ = some y.v1)
    (d0 : W.cell? ⟨pb, 0, none⟩ = some (.int .i64 5)) (d1 : W.cell? ⟨pb, 1, none⟩ = some (.slice (some ⟨b2, 0, none⟩) 2 2)) : MidC w W pb b2 x y := by
  have hr := hW (w.heap.size + 1) hlt (by omega)
  refine ⟨hbW, ?_, ?_, q1, q2, c0, c1, c2, c3, d0, d1, (World.cell?_of_block hr).trans hw0, (World.cell?_of_block hr).trans hw1, (World.frozen?_of_block hr).trans hw2, (World.frozen?_of_block hr).trans hw3⟩
  · refine (hL.keep fun b hP => ?_).mono fun b hP => ?_
    · obtain ⟨h1, h2, h3⟩ := hLp b hP
      exact (hW b (by omega) h3).trans (hlf b h2)
    · obtain ⟨h1, h2, h3⟩ := hLp b hP
      omega
  · refine (hS.keep fun b hP => ?_).mono fun b hP => ?_
    · obtain ⟨h1, h2, h3⟩ := hSp b hP
      exact hW b h2 h3
    · obtain ⟨h1, h2, h3⟩ := hSp b hP
      omega


/-- The cells of the pair's list. -/
def fourC (x y : Sc) : Obj := .cells #[.int .i64 x.k, x.v1, .int .i64 y.k, y.v1] 24
def pairC (b : Nat) : Obj := .cells #[.int .i64 5, .slice (some ⟨b, 0, none⟩) 2 2] 24

theorem cell_at_new {X : World} {n i : Nat} {cs : Array Value} {t : TypeId} {v : Value} (h : X.heap.size = n) (hv : cs[i]? = some v) : (X.alloc (.cells cs t)).cell? ⟨n, i, none⟩ = some v := by
  subst h
  simp [hv]

section
variable {w wl wf : World} {x y : Sc} {PL PS : Nat → Prop} (hL : x.Inp PL wl) (hS : y.Inp PS wf) (hbf : Below w.heap.size w wf) (hlf : ∀ b, b < wl.heap.size → wf.heap[b]? = wl.heap[b]?) (hsz : wl.heap.size ≤ wf.heap.size) (hlt : w.heap.size + 1 < wf.heap.size)
    (hw0 : wf.cell? ⟨w.heap.size + 1, 0, none⟩ = some (.int .i64 0)) (hw1 : wf.cell? ⟨w.heap.size + 1, 1, none⟩ = some (.slice none 0 0)) (hw2 : wf.frozen? ⟨w.heap.size + 1, 0, none⟩ = false) (hw3 : wf.frozen? ⟨w.heap.size + 1, 1, none⟩ = false)
    (hPL : ∀ b, PL b → w.heap.size + 1 + 1 ≤ b ∧ b < wl.heap.size) (hPS : ∀ b, PS b → w.heap.size + 1 + 1 ≤ b ∧ b < wf.heap.size)
include hL hS hbf hlf hsz hlt hw0 hw1 hw2 hw3 hPL hPS

theorem midA : MidC w ((wf.alloc (fourC x y)).alloc (pairC wf.heap.size)) (wf.heap.size + 1) wf.heap.size x y := by
  refine mid_of hL hS (belAl (belAl hbf)) hlf (fun b hP => ?_) (fun b hP => ?_) hsz (by rw [World.size_alloc, World.size_alloc]; omega) (fun b h _ => ?_) (by omega) hlt hw0 hw1 hw2 hw3 (by omega) (by rw [World.size_alloc, World.size_alloc]; omega) ?_ ?_ ?_ ?_ ?_ ?_
  · have := hPL b hP; omega
  · have := hPS b hP; omega
  · rw [Below.heap_alloc _ _ _ (by simp; omega), Below.heap_alloc _ _ _ h]
  all_goals unfold fourC pairC; simp
theorem midB : MidC w ((wf.alloc (pairC (wf.heap.size + 1))).alloc (fourC x y)) wf.heap.size (wf.heap.size + 1) x y := by
  refine mid_of hL hS (belAl (belAl hbf)) hlf (fun b hP => ?_) (fun b hP => ?_) hsz (by rw [World.size_alloc, World.size_alloc]; omega) (fun b h _ => ?_) (by omega) hlt hw0 hw1 hw2 hw3 (by omega) (by rw [World.size_alloc, World.size_alloc]; omega) ?_ ?_ ?_ ?_ ?_ ?_
  · have := hPL b hP; omega
  · have := hPS b hP; omega
  · rw [Below.heap_alloc _ _ _ (by simp; omega), Below.heap_alloc _ _ _ h]
  all_goals unfold fourC pairC; simp
theorem midC {p : Nat} {u0 u1 : Value} (hp : p < wf.heap.size) (hpw : w.heap.size + 1 + 1 ≤ p) (hu0 : wf.cell? ⟨p, 0, none⟩ = some u0) (hu1 : wf.cell? ⟨p, 1, none⟩ = some u1) (hLp : ∀ b, PL b → b ≠ p) (hSp : ∀ b, PS b → b ≠ p) :
    MidC w (((wf.setCell ⟨p, 0, none⟩ (.int .i64 5)).setCell ⟨p, 1, none⟩ (.slice (some ⟨wf.heap.size, 0, none⟩) 2 2)).alloc (fourC x y)) p wf.heap.size x y := by
  have hz : ((wf.setCell ⟨p, 0, none⟩ (.int .i64 5)).setCell ⟨p, 1, none⟩ (.slice (some ⟨wf.heap.size, 0, none⟩) 2 2)).heap.size = wf.heap.size := by simp
  refine mid_of hL hS (belAl ((hbf.setCell (by simp; omega) _).setCell (by simp; omega) _)) hlf (fun b hP => ?_) (fun b hP => ?_) hsz (by simp) (fun b h hne => ?_) hpw hlt hw0 hw1 hw2 hw3 (by omega) (by simp) ?_ ?_ ?_ ?_ ?_ ?_
  · have := hPL b hP; have := hLp b hP; omega
  · have := hPS b hP; have := hSp b hP; omega
  · rw [Below.heap_alloc _ _ _ (by rw [hz]; exact h), Below.heap_setCell _ _ _ _ hne, Below.heap_setCell _ _ _ _ hne]
  · exact cell_at_new hz rfl
  · exact cell_at_new hz rfl
  · exact cell_at_new hz rfl
  · exact cell_at_new hz rfl
  · rw [World.cell?_alloc_past _ _ _ (by rw [hz]; exact hp)]; go_simp
  · rw [World.cell?_alloc_past _ _ _ (by rw [hz]; exact hp)]; go_simp
end

set_option maxHeartbeats 2000000 in
theorem cause_any : ∀ (s : Sc) (w : World), s.In w.heap.size w → Calls Try.prog 14 #[s.val] w (RetN w (causeT s.er)) := by
  rintro ⟨k0, A, c, l⟩ w hin
  have HIN := Lib.hid hin
  clear hin
  simp only [val_mk]
  go_enter Try.func14, Try.ntmps14
  go_upto_region 1 with fail
  go_cut [3] (fun s3 wx => ∃ (pb b2 : Nat) (x y : Sc), s3 = .pointer (some ⟨pb, 0, none⟩) ∧ MidC w wx pb b2 x y ∧ Hid (x.er = leanT) ∧ Hid (y.er = (Sc.mk k0 A c l).er))
  case first =>
    go_region_held3 (fun w' => w'.cell? ⟨w.heap.size, 0, none⟩ = some (.int .i64 k0) ∧ w'.cell? ⟨w.heap.size, 1, none⟩ = some (.slice A l.length c))
    (first
      | (refine ⟨?_, ?_⟩ <;> (first | (go_simp; done) | (simp [go_sem, World.cell?_alloc_past, hsf0, hsf1, hsf2, hr0, hr1]; done) | (simp [go_sem, World.cell?_alloc_past, hsl0, hsl1, hsl2, hp0, hp1]; done))))
    (first
      | (go_at_call 23; refine (leaning_any _).mono ?_; rintro e wl ⟨⟨lk, lA, lc, ll⟩, rfl, hle, hli, hlb⟩; (have hsl : w.heap.size + 1 < wl.heap.size := Nat.lt_of_lt_of_le (by first | (simp; done) | (simp; omega)) hlb.size; have hsl0 : w.heap.size < wl.heap.size := (by omega); have hsl1 : w.heap.size < wl.heap.size + 1 := (by omega); have hsl2 : w.heap.size < wl.heap.size + 1 + 1 := (by omega); have hp0 : wl.cell? ⟨w.heap.size, 0, none⟩ = some (.int .i64 k0) := (hlb.cell (p := ⟨w.heap.size, 0, none⟩) (by first | (simp; done) | (simp; omega))).trans (by first | (simp; done) | (rw [World.cell?_drew, World.cell?_alloc_past _ _ _ (by simp; omega)]; simp; done)); have hp1 : wl.cell? ⟨w.heap.size, 1, none⟩ = some (.slice A l.length c) := (hlb.cell (p := ⟨w.heap.size, 1, none⟩) (by first | (simp; done) | (simp; omega))).trans (by first | (simp; done) | (rw [World.cell?_drew, World.cell?_alloc_past _ _ _ (by simp; omega)]; simp; done)); have hq0 : wl.cell? ⟨w.heap.size + 1, 0, none⟩ = some (.int .i64 0) := (hlb.cell (p := ⟨w.heap.size + 1, 0, none⟩) (by first | (simp; done) | (simp; omega))).trans (by first | (simp; done) | (rw [World.cell?_drew, World.cell?_alloc_past _ _ _ (by simp)]; simp; done)); have hq1 : wl.cell? ⟨w.heap.size + 1, 1, none⟩ = some (.slice none 0 0) := (hlb.cell (p := ⟨w.heap.size + 1, 1, none⟩) (by first | (simp; done) | (simp; omega))).trans (by first | (simp; done) | (rw [World.cell?_drew, World.cell?_alloc_past _ _ _ (by simp)]; simp; done)); have hq2 : wl.frozen? ⟨w.heap.size + 1, 0, none⟩ = false := (hlb.frozen (p := ⟨w.heap.size + 1, 0, none⟩) (by first | (simp; done) | (simp; omega))).trans (by first | (simp; done) | (rw [World.frozen?_drew, World.frozen?_alloc_past _ _ _ (by simp)]; simp; done)); have hq3 : wl.frozen? ⟨w.heap.size + 1, 1, none⟩ = false := (hlb.frozen (p := ⟨w.heap.size + 1, 1, none⟩) (by first | (simp; done) | (simp; omega))).trans (by first | (simp; done) | (rw [World.frozen?_drew, World.frozen?_alloc_past _ _ _ (by simp)]; simp; done)); have hsy := hlb.size; (try (simp only [World.size_alloc, World.drew] at hsy)); (try (have hsx := Nat.lt_of_succ_le hsy; have hsw := Nat.ne_of_lt hsx)); have hz0 := fun h => hlb.cell (p := ⟨w.heap.size + 1 + 1, 0, none⟩) h; have hz1 := fun h => hlb.cell (p := ⟨w.heap.size + 1 + 1, 1, none⟩) h; have hz2 := fun h => hlb.frozen (p := ⟨w.heap.size + 1 + 1, 0, none⟩) h; have hz3 := fun h => hlb.frozen (p := ⟨w.heap.size + 1 + 1, 1, none⟩) h; (simp at hz0 hz1 hz2 hz3); have HBL : Below w.heap.size w wl := Below.trans (by repeat (first | exact Below.refl _ _ | apply Below.drew | apply belAl)) (hlb.mono (by first | (simp; done) | (simp; omega))); have HLI := Lib.hid hli; have HLE := Lib.hid hle; clear hli hle; simp only [val_mk]))
      | (go_at_call 24; refine (fresh_any (.mk k0 A c l) _ (by repeat (first | exact HIN.out | refine Sc.In.later ?_ hlb | refine Sc.In.later ?_ (allocB _ _) | refine Sc.In.later ?_ (drewB _)))).mono ?_; rintro e wf ⟨⟨sk, sA, sc, sl⟩, rfl, hse, hsi, hsb⟩; (have hr0 : wf.cell? ⟨w.heap.size, 0, none⟩ = some (.int .i64 k0) := (hsb.cell (p := ⟨w.heap.size, 0, none⟩) (by first | exact hsl0 | (simp; exact hsl1) | (simp; omega))).trans (by first | exact hp0 | (simp [World.cell?_alloc_past, hsl0, hp0]; done)); have hr1 : wf.cell? ⟨w.heap.size, 1, none⟩ = some (.slice A l.length c) := (hsb.cell (p := ⟨w.heap.size, 1, none⟩) (by first | exact hsl0 | (simp; exact hsl1) | (simp; omega))).trans (by first | exact hp1 | (simp [World.cell?_alloc_past, hsl0, hp1]; done)); have hsf0 : w.heap.size < wf.heap.size := Nat.lt_of_lt_of_le (by first | exact hsl0 | (simp; exact hsl1) | (simp; omega)) hsb.size; have hsf1 : w.heap.size < wf.heap.size + 1 := (by omega); have hsf2 : w.heap.size < wf.heap.size + 1 + 1 := (by omega); have hw0 : wf.cell? ⟨w.heap.size + 1, 0, none⟩ = some (.int .i64 0) := (hsb.cell (p := ⟨w.heap.size + 1, 0, none⟩) (by first | exact hsl | (simp; exact Nat.lt_succ_of_lt hsl) | (simp; omega))).trans (by first | exact hq0 | (simp [World.cell?_alloc_past, hsl, hq0]; done)); have hw1 : wf.cell? ⟨w.heap.size + 1, 1, none⟩ = some (.slice none 0 0) := (hsb.cell (p := ⟨w.heap.size + 1, 1, none⟩) (by first | exact hsl | (simp; exact Nat.lt_succ_of_lt hsl) | (simp; omega))).trans (by first | exact hq1 | (simp [World.cell?_alloc_past, hsl, hq1]; done)); have hw2 : wf.frozen? ⟨w.heap.size + 1, 0, none⟩ = false := (hsb.frozen (p := ⟨w.heap.size + 1, 0, none⟩) (by first | exact hsl | (simp; exact Nat.lt_succ_of_lt hsl) | (simp; omega))).trans (by first | exact hq2 | (simp [World.frozen?_alloc_past, hsl, hq2]; done)); have hw3 : wf.frozen? ⟨w.heap.size + 1, 1, none⟩ = false := (hsb.frozen (p := ⟨w.heap.size + 1, 1, none⟩) (by first | exact hsl | (simp; exact Nat.lt_succ_of_lt hsl) | (simp; omega))).trans (by first | exact hq3 | (simp [World.frozen?_alloc_past, hsl, hq3]; done)); have hsg : w.heap.size + 1 < wf.heap.size := Nat.lt_of_lt_of_le hsl (Nat.le_trans (by first | exact Nat.le_refl _ | (simp; done)) hsb.size); have hlw : wl.heap.size ≤ wf.heap.size := Nat.le_trans (by first | exact Nat.le_refl _ | (simp; done)) hsb.size; (try (have hx1 : w.heap.size + 1 + 1 < wl.heap.size := hsx; have hx2 := Nat.lt_of_lt_of_le hx1 hsb.size; have hx3 := Nat.ne_of_lt hx2; have hv0 := (hsb.cell (p := ⟨w.heap.size + 1 + 1, 0, none⟩) hx1).trans hz0; have hv1 := (hsb.cell (p := ⟨w.heap.size + 1 + 1, 1, none⟩) hx1).trans hz1; have hv2 := (hsb.frozen (p := ⟨w.heap.size + 1 + 1, 0, none⟩) hx1).trans hz2; have hv3 := (hsb.frozen (p := ⟨w.heap.size + 1 + 1, 1, none⟩) hx1).trans hz3)); have hu0 := fun h => hsb.cell (p := ⟨wl.heap.size, 0, none⟩) h; have hu1 := fun h => hsb.cell (p := ⟨wl.heap.size, 1, none⟩) h; have hu2 := fun h => hsb.frozen (p := ⟨wl.heap.size, 0, none⟩) h; have hu3 := fun h => hsb.frozen (p := ⟨wl.heap.size, 1, none⟩) h; (try simp at hu0 hu1 hu2 hu3); have hu4 := hsb.size; (try (rw [World.size_alloc] at hu4; have hu5 := Nat.lt_of_succ_le hu4; have hu6 := Nat.ne_of_lt hu5; have hu7 := Nat.ne_of_lt hsl0)); have HBF : Below w.heap.size w wf := (by first | exact HBL.trans (hsb.mono HBL.size) | exact (belAl HBL).trans (hsb.mono (belAl HBL).size)); have HLF : ∀ b, b < wl.heap.size → wf.heap[b]? = wl.heap[b]? := (by first | exact fun b h => hsb.block b h | exact fun b h => (hsb.block b (Nat.lt_of_lt_of_le h (by simp))).trans (Below.heap_alloc _ _ _ h)); have HSI := Lib.hid hsi; have HSE := Lib.hid hse; clear hsi hse; simp only [val_mk])))
    · go_wp2_with fail
      go_meet
      exact ⟨_, _, .mk lk lA lc ll, .mk sk sA sc sl, rfl, midA HLI.out HSI.out HBF HLF hlw hsg hw0 hw1 hw2 hw3 (fun b hP => by have := hP.1; have := hP.2; simp at *; omega) (fun b hP => by have := hP.1; have := hP.2; simp at *; omega), HLE, HSE⟩
    · go_wp2_with fail
      go_meet
      exact ⟨_, _, .mk lk lA lc ll, .mk sk sA sc sl, rfl, midB HLI.out HSI.out HBF HLF hlw hsg hw0 hw1 hw2 hw3 (fun b hP => by have := hP.1; have := hP.2; simp at *; omega) (fun b hP => by have := hP.1; have := hP.2; simp at *; omega), HLE, HSE⟩
    · go_wp2_with fail
      go_meet
      exact ⟨_, _, .mk lk lA lc ll, .mk sk sA sc sl, rfl, midC HLI.out HSI.out HBF HLF hlw hsg hw0 hw1 hw2 hw3 (fun b hP => by have := hP.1; have := hP.2; simp at *; omega) (fun b hP => by have := hP.1; have := hP.2; simp at *; omega) hu5 (by omega) hu0 hu1 (fun b hP => by have := hP.2; omega) (fun b hP => by have := hP.1; simp at this; omega), HLE, HSE⟩
    · go_wp2_with fail
      go_meet
      exact ⟨_, _, .mk lk lA lc ll, .mk sk sA sc sl, rfl, midC HLI.out HSI.out HBF HLF hlw hsg hw0 hw1 hw2 hw3 (fun b hP => by have := hP.1; have := hP.2; simp at *; omega) (fun b hP => by have := hP.1; have := hP.2; simp at *; omega) hx2 (Nat.le_refl _) (hv0.trans (cell_at_new (by simp) rfl)) (hv1.trans (cell_at_new (by simp) rfl)) (fun b hP => by have := hP.1; simp at this; omega) (fun b hP => by have := hP.1; omega), HLE, HSE⟩
  case rest =>
    obtain ⟨pb, b2, x, y, rfl, hm, hxe, hye⟩ := hcut
    have HM := Lib.hid hm
    have d0 := hm.d0
    have d1 := hm.d1
    have r0 := hm.r0
    have r1 := hm.r1
    have f0 := hm.f0
    have f1 := hm.f1
    have hwc : w.heap.size + 1 < wc.heap.size := by have := hm.q1; have := hm.q2; omega
    have hwn : w.heap.size + 1 ≠ wc.heap.size := Nat.ne_of_lt hwc
    clear hm
    go_wp2_with fail
    refine bodyPost_ret (results_cellS rfl _ _ (w.heap.size + 1) (.int .i64 8) (.slice (some ⟨wc.heap.size, 0, none⟩) 1 1) rfl (by go_simp) (by go_simp)) rfl ?_
    obtain ⟨bel, hx, hy, q1, q2, c0, c1, c2, c3, -⟩ := HM.out
    have hz : ((wc.setCell ⟨w.heap.size + 1, 0, none⟩ (.int .i64 8)).setCell ⟨w.heap.size + 1, 1, none⟩ (.slice (some ⟨wc.heap.size, 0, none⟩) 1 1)).heap.size = wc.heap.size := by simp
    have hk : ∀ b, w.heap.size + 1 + 1 ≤ b → b < wc.heap.size → (((wc.setCell ⟨w.heap.size + 1, 0, none⟩ (.int .i64 8)).setCell ⟨w.heap.size + 1, 1, none⟩ (.slice (some ⟨wc.heap.size, 0, none⟩) 1 1)).alloc (.cells #[.int .i64 5, .slice (some ⟨b2, 0, none⟩) 2 2] 24)).heap[b]? = wc.heap[b]? := by
      intro b h1 h2
      rw [Below.heap_alloc _ _ _ (by rw [hz]; exact h2), Below.heap_setCell _ _ _ _ (by show b ≠ w.heap.size + 1; omega), Below.heap_setCell _ _ _ _ (by show b ≠ w.heap.size + 1; omega)]
    have hk2 := hk b2 q1 q2
    refine retN_mk (.mk 8 (some ⟨wc.heap.size, 0, none⟩) 1 [.mk 5 (some ⟨b2, 0, none⟩) 2 [x, y]]) (belAl ((bel.setCell (by simp) _).setCell (by simp) _)) rfl (by simp only [er_mk, List.map_cons, List.map_nil, hxe.out, hye.out]; rfl) ?_
    have hx' := (hx.keep fun b hP => hk b hP.1 hP.2).mono (Q := fun b => w.heap.size ≤ b ∧ b < (((wc.setCell ⟨w.heap.size + 1, 0, none⟩ (.int .i64 8)).setCell ⟨w.heap.size + 1, 1, none⟩ (.slice (some ⟨wc.heap.size, 0, none⟩) 1 1)).alloc (.cells #[.int .i64 5, .slice (some ⟨b2, 0, none⟩) 2 2] 24)).heap.size) fun b hP => by rw [World.size_alloc, hz]; omega
    have hy' := (hy.keep fun b hP => hk b hP.1 hP.2).mono (Q := fun b => w.heap.size ≤ b ∧ b < (((wc.setCell ⟨w.heap.size + 1, 0, none⟩ (.int .i64 8)).setCell ⟨w.heap.size + 1, 1, none⟩ (.slice (some ⟨wc.heap.size, 0, none⟩) 1 1)).alloc (.cells #[.int .i64 5, .slice (some ⟨b2, 0, none⟩) 2 2] 24)).heap.size) fun b hP => by rw [World.size_alloc, hz]; omega
    exact inp_one (by rw [World.size_alloc, hz]; omega) (cell_at_new hz rfl) (cell_at_new hz rfl)
      (inp_two (by rw [World.size_alloc, hz]; omega) ((World.cell?_of_block hk2).trans c0) ((World.cell?_of_block hk2).trans c1) ((World.cell?_of_block hk2).trans c2) ((World.cell?_of_block hk2).trans c3) hx' hy')
end Go.Proofs.Ytohmgidmfabimaa
