/- What value.every does, with each of the four questions, given what the question answers. No condition but that what is gone through lies in memory. What the reference's is and Is do, of maps and pairs, and of all. No condition but that what they take lies in memory. What slices.IndexFunc and slices.ContainsFunc do with clock.wrong; clock.Is, slices.Equal, clock.Same. No condition but that the ticks lie in memory. What slices.BinarySearchFunc does with clock.byWho; clock.found, clock.Of. No condition but that the ticks lie in memory and rise, at most 1000. What clock.found and clock.Of do. No condition but that the ticks lie in memory and rise, at most 1000. What clock.within and clock.Cmp do. No condition but that the ticks lie in memory and rise, at most 1000. What value.long, value.texts, value.written do, and slices.IndexFunc, slices.ContainsFunc with long. No condition but that the texts lie in memory. -/
import Derived.Test.YtleejffjnknohaaGreatMo07
import Derived.Test.YtleejffjnknohaaGreatMo04
import Derived.Test.YtleejffjnknohaaGreatMo05
import Derived.Deep.RegionHeld3
namespace Go.Proofs.YtleejffjnknohaaGreat.V4
open Go.RowKit Go.Shelf
open S2 (Sc LiesP allocB results_cell1)
open C3 (belAl)

attribute [local go_sem] Oper.semAt_some

def InT (w : World) (x : Sc × Vl) : Prop := x.1.In w.heap.size w ∧ x.2.In w
def InK (w : World) (x : Vl × Vl) : Prop := x.1.In w ∧ x.2.In w
def InC (w : World) (x : Ck) : Prop := x.Inp (fun b => b < w.heap.size) w
theorem InT.later {w w' : World} {x : Sc × Vl} (h : InT w x) (hb : Below w.heap.size w w') : InT w' x := ⟨h.1.later hb, h.2.later hb⟩
theorem InK.later {w w' : World} {x : Vl × Vl} (h : InK w x) (hb : Below w.heap.size w w') : InK w' x := ⟨h.1.later hb, h.2.later hb⟩
theorem InC.later {w w' : World} {x : Ck} (h : InC w x) (hb : Below w.heap.size w w') : InC w' x := (Ck.Inp.keep h fun b hlt => hb.block b hlt).mono fun _ hlt => Nat.lt_of_lt_of_le hlt hb.size

theorem all_take_succ {α : Type} {p : α → Bool} {zs : List α} {k : Nat} {x : α} (hx : zs[k]? = some x) : (zs.take (k + 1)).all p = ((zs.take k).all p && p x) := by
  obtain ⟨hk, he⟩ := List.getElem?_eq_some_iff.1 hx
  rw [List.take_succ_eq_append_getElem hk, he, List.all_append]
  simp
theorem all_false {α : Type} {p : α → Bool} {zs : List α} {k : Nat} {x : α} (hx : zs[k]? = some x) (hp : p x = false) : zs.all p = false := by
  refine Bool.eq_false_iff.2 fun h => ?_
  have := List.all_eq_true.1 h x (List.mem_of_getElem? hx)
  rw [hp] at this
  cases this

set_option maxRecDepth 100000 in
set_option maxHeartbeats 1000000 in
theorem every_right (p : Sc × Vl → Bool) (zs : List (Sc × Vl)) (hf : ∀ x ∈ zs, ∀ W, InT W x → Calls Tryz.prog 41 #[valT x] W (RetV W (.bool (p x)))) (ok : Sc × Vl → Prop) (hok : ∀ x ∈ zs, p x = true → ok x) (g : Nat) (lb : Array Value) (eg : Enters Tryz.prog g) (w : World)
    (hseq : ∀ D w2, Below w.heap.size w w2 → w.heap.size ≤ D → D < w2.heap.size → SeqO Tryz.prog g lb encT D ok zs w2) (hmem : ∀ x ∈ zs, InT w x) :
    Calls Tryz.prog 38 #[.func (.func g) #[] lb, .func (.func 41) #[] #[]] w (RetV w (.bool (zs.all p))) := by
  have HF := Lib.hid hf
  have HOK := Lib.hid hok
  have HE := Lib.hid eg
  have HS := Lib.hid hseq
  have HM := Lib.hid hmem
  clear hf hok eg hseq hmem
  refine (callsIn_wide (n := 6)).1 (callsIn_of_wp_marks Tryz.func38 rfl trivial ?_ rfl)
  simp only [Tryz.ntmps38, List.size_toArray, List.length_cons, List.length_nil, Nat.reduceAdd, Nat.reduceSub, Array.replicate_succ, Array.replicate_zero, List.push_toArray, List.append_toArray, List.nil_append, List.cons_append]
  gi_wp2_with fail
  obtain ⟨V, hV⟩ : ∃ V, (w.alloc (.cells #[.func (.func 41) #[] #[]] 89)).alloc (.cells #[.bool false] 4) = V := ⟨_, rfl⟩
  have hB0 : Below w.heap.size w V := by rw [← hV]; exact belAl (belAl (Below.refl _ _))
  have hsz : V.heap.size = w.heap.size + 2 := by rw [← hV]; simp
  have bR : Boxed V (w.heap.size + 1) 4 (.bool false) := by
    have := Boxed.new (w.alloc (.cells #[.func (.func 41) #[] #[]] 89)) 4 (.bool false)
    rw [World.size_alloc, hV] at this
    exact this
  have cI : V.cell? ⟨w.heap.size, 0, none⟩ = some (.func (.func 41) #[] #[]) := by
    rw [← hV]
    exact ((belAl1 (Below.refl (w.heap.size + 1) (w.alloc (.cells #[.func (.func 41) #[] #[]] 89))) (by simp)).cell (p := ⟨w.heap.size, 0, none⟩) (by simp)).trans (alloc_cells 0 _ rfl)
  rw [hV]
  clear hV
  refine range_own rfl HE.out (HS.out (w.heap.size + 1) V hB0 (by omega) (by omega)) (fun _ => rfl)
    (fun k X => (Boxed X (w.heap.size + 1) 4 (.bool false) ∧ Below w.heap.size w X) ∧ X.cell? ⟨w.heap.size, 0, none⟩ = some (.func (.func 41) #[] #[]) ∧ (zs.take k).all p = true)
    (fun c _ X => (Boxed X (w.heap.size + 1) 4 (.bool false) ∧ Below w.heap.size w X) ∧ c = .ret ∧ zs.all p = false)
    (fun k X Y ⟨⟨h1, h2⟩, h3, h4⟩ hb => ⟨⟨(hb.block _ (by omega)).trans h1, h2.trans (hb.mono (by omega))⟩, (hb.cell (p := ⟨w.heap.size, 0, none⟩) (by simp only; omega)).trans h3, h4⟩)
    (fun c k X Y ⟨⟨h1, h2⟩, h3⟩ hb => ⟨⟨(hb.block _ (by omega)).trans h1, h2.trans (hb.mono (by omega))⟩, h3⟩)
    ⟨⟨bR, hB0⟩, cI, rfl⟩
    (fun y a' X => ∃ bp, a' = { tmps := #[.func (.func g) #[] lb, .func (.func 41) #[] #[], undef, .pointer (some ⟨w.heap.size, 0, none⟩), .pointer (some ⟨w.heap.size + 1, 0, none⟩), .pointer (some ⟨bp, 0, none⟩), .func (.func g) #[] lb, valT y, undef, undef, undef, undef], defers := [] } ∧ ∀ i v, (cellsT y)[i]? = some v → X.cell? ⟨bp, i, none⟩ = some v)
    ?ax ?assign ?body ?done ?stop
  case ax =>
    rintro y a' _ X Y row ⟨bp, h1, h2⟩ hg hr
    exact ⟨bp, h1, fun i v h => cell_kept (h2 i v h) hg (fun r e => (hr r e).2)⟩
  case assign =>
    intro l2 k y X K _ _ hK
    obtain ⟨⟨yk, yA, yc, yl⟩, yn, ym, ysA, ysc, yss, ycA, ycc, ycs, yvA, yvc, yvs⟩ := y
    unfold encT
    simp only [valT, cellsT, Sc.k, Sc.v1, Vl.n, Vl.m, Vl.s1, Vl.c1, Vl.v1]
    gi_wp2
    exact hK _ _ (allocB _ _) ⟨X.heap.size, rfl, fun i v h => alloc_cells i v h⟩
  case body =>
    rintro l2 k y a' X hXs hx ⟨⟨h1, h2⟩, h3, h4⟩ ⟨bp, rfl, hc⟩
    have HX := Lib.hid hx
    have hb := h2
    have hcl := h1.cell
    have hcf := h1.frozen
    have HR := Lib.hid (HF.out y (List.mem_of_getElem? hx) X ((HM.out y (List.mem_of_getElem? hx)).later h2))
    obtain ⟨q, hq⟩ : ∃ q, p y = q := ⟨_, rfl⟩
    have HQ := Lib.hid hq
    have HP := Lib.hid h4
    rw [hq] at HR
    clear hx hq h4
    obtain ⟨⟨yk, yA, yc, yl⟩, yn, ym, ysA, ysc, yss, ycA, ycc, ycs, yvA, yvc, yvs⟩ := y
    have e0 := hc 0 _ rfl
    have e1 := hc 1 _ rfl
    have e2 := hc 2 _ rfl
    have e3 := hc 3 _ rfl
    have e4 := hc 4 _ rfl
    have e5 := hc 5 _ rfl
    have e6 := hc 6 _ rfl
    simp only [valT, cellsT, Sc.k, Sc.v1, Vl.n, Vl.m, Vl.s1, Vl.c1, Vl.v1] at e0 e1 e2 e3 e4 e5 e6 HR ⊢
    clear hc
    gi_wp2_with fail
    refine ⟨trivial, rfl, (CallsIn.inRound l2 (callsIn_wide.2 HR.out)).mono ?_⟩
    clear HR e0 e1 e2 e3 e4 e5 e6
    rintro e X5 ⟨rfl, hb5⟩
    have g1 : Boxed X5 (w.heap.size + 1) 4 (.bool false) := (hb5.block _ (by omega)).trans h1
    have g3 := (hb5.cell (p := ⟨w.heap.size, 0, none⟩) (by simp only; omega)).trans h3
    have hB5 : Below w.heap.size w X5 := h2.trans (hb5.mono h2.size)
    cases q with
    | true =>
      gi_wp2_with fail
      exact ⟨KN.of_below hb5, ⟨⟨g1, hB5⟩, g3, by rw [all_take_succ HX.out, HP.out, HQ.out]; rfl⟩, HOK.out _ (List.mem_of_getElem? HX.out) HQ.out⟩
    | false =>
      have hcl5 := g1.cell
      have hcf5 := g1.frozen
      gi_wp2_with fail
      exact ⟨(KF.of_below hb5).trans (KF.set (by omega) _), ⟨g1.set _, hB5.setCell (by first | omega | (simp; omega) | simp) _⟩, rfl, all_false HX.out HQ.out⟩
  case done =>
    rintro E X hE ⟨⟨hR, hB⟩, -, hp⟩ hK
    have hcl := hR.cell
    have hcf := hR.frozen
    rw [List.take_length] at hp
    have HP := Lib.hid hp
    clear hp
    gi_wp2
    have hne : w.heap.size + 1 ≠ E := by omega
    have hK2 : (X.setCell ⟨w.heap.size + 1, 0, none⟩ (.bool true)).heap[E]? = some (.deferred (some [])) := (Below.heap_setCell _ _ _ _ (Ne.symm hne)).trans hK
    refine ⟨by simp, .inl ⟨_, _, rfl, run_takeDeferred hK2, ?_⟩⟩
    refine ⟨_, results_cell1 rfl rfl _ _ (w.heap.size + 1) (.bool true) rfl ((World.cell?_of_block (World.putObj_heap_other hne)).trans (hR.set (.bool true)).cell), ?_⟩
    rw [HP.out]
    exact ⟨rfl, (hB.setCell (by first | omega | (simp; omega) | simp) _).trans ⟨rfl, rfl, rfl, by simp, fun q hq => World.putObj_heap_other (by omega)⟩⟩
  case stop =>
    rintro E c k X hE hk ⟨⟨hR, hB⟩, rfl, hp⟩ hK
    have hcl := hR.cell
    have HP := Lib.hid hp
    clear hp
    gi_wp2
    have hne : w.heap.size + 1 ≠ E := by omega
    refine ⟨by simp, .inl ⟨_, _, rfl, run_takeDeferred hK, ?_⟩⟩
    refine ⟨_, results_cell1 rfl rfl _ _ (w.heap.size + 1) (.bool false) rfl ((World.cell?_of_block (World.putObj_heap_other hne)).trans hcl), ?_⟩
    rw [HP.out]
    exact ⟨rfl, hB.trans ⟨rfl, rfl, rfl, by simp, fun q hq => World.putObj_heap_other (by omega)⟩⟩

set_option maxRecDepth 100000 in
set_option maxHeartbeats 1000000 in
theorem every_hollow (p : Sc × Vl → Bool) (zs : List (Sc × Vl)) (hf : ∀ x ∈ zs, ∀ W, InT W x → Calls Tryz.prog 131 #[valT x] W (RetV W (.bool (p x)))) (ok : Sc × Vl → Prop) (hok : ∀ x ∈ zs, p x = true → ok x) (g : Nat) (lb : Array Value) (eg : Enters Tryz.prog g) (w : World)
    (hseq : ∀ D w2, Below w.heap.size w w2 → w.heap.size ≤ D → D < w2.heap.size → SeqO Tryz.prog g lb encT D ok zs w2) (hmem : ∀ x ∈ zs, InT w x) :
    Calls Tryz.prog 38 #[.func (.func g) #[] lb, .func (.func 131) #[] #[]] w (RetV w (.bool (zs.all p))) := by
  have HF := Lib.hid hf
  have HOK := Lib.hid hok
  have HE := Lib.hid eg
  have HS := Lib.hid hseq
  have HM := Lib.hid hmem
  clear hf hok eg hseq hmem
  refine (callsIn_wide (n := 6)).1 (callsIn_of_wp_marks Tryz.func38 rfl trivial ?_ rfl)
  simp only [Tryz.ntmps38, List.size_toArray, List.length_cons, List.length_nil, Nat.reduceAdd, Nat.reduceSub, Array.replicate_succ, Array.replicate_zero, List.push_toArray, List.append_toArray, List.nil_append, List.cons_append]
  gi_wp2_with fail
  obtain ⟨V, hV⟩ : ∃ V, (w.alloc (.cells #[.func (.func 131) #[] #[]] 89)).alloc (.cells #[.bool false] 4) = V := ⟨_, rfl⟩
  have hB0 : Below w.heap.size w V := by rw [← hV]; exact belAl (belAl (Below.refl _ _))
  have hsz : V.heap.size = w.heap.size + 2 := by rw [← hV]; simp
  have bR : Boxed V (w.heap.size + 1) 4 (.bool false) := by
    have := Boxed.new (w.alloc (.cells #[.func (.func 131) #[] #[]] 89)) 4 (.bool false)
    rw [World.size_alloc, hV] at this
    exact this
  have cI : V.cell? ⟨w.heap.size, 0, none⟩ = some (.func (.func 131) #[] #[]) := by
    rw [← hV]
    exact ((belAl1 (Below.refl (w.heap.size + 1) (w.alloc (.cells #[.func (.func 131) #[] #[]] 89))) (by simp)).cell (p := ⟨w.heap.size, 0, none⟩) (by simp)).trans (alloc_cells 0 _ rfl)
  rw [hV]
  clear hV
  refine range_own rfl HE.out (HS.out (w.heap.size + 1) V hB0 (by omega) (by omega)) (fun _ => rfl)
    (fun k X => (Boxed X (w.heap.size + 1) 4 (.bool false) ∧ Below w.heap.size w X) ∧ X.cell? ⟨w.heap.size, 0, none⟩ = some (.func (.func 131) #[] #[]) ∧ (zs.take k).all p = true)
    (fun c _ X => (Boxed X (w.heap.size + 1) 4 (.bool false) ∧ Below w.heap.size w X) ∧ c = .ret ∧ zs.all p = false)
    (fun k X Y ⟨⟨h1, h2⟩, h3, h4⟩ hb => ⟨⟨(hb.block _ (by omega)).trans h1, h2.trans (hb.mono (by omega))⟩, (hb.cell (p := ⟨w.heap.size, 0, none⟩) (by simp only; omega)).trans h3, h4⟩)
    (fun c k X Y ⟨⟨h1, h2⟩, h3⟩ hb => ⟨⟨(hb.block _ (by omega)).trans h1, h2.trans (hb.mono (by omega))⟩, h3⟩)
    ⟨⟨bR, hB0⟩, cI, rfl⟩
    (fun y a' X => ∃ bp, a' = { tmps := #[.func (.func g) #[] lb, .func (.func 131) #[] #[], undef, .pointer (some ⟨w.heap.size, 0, none⟩), .pointer (some ⟨w.heap.size + 1, 0, none⟩), .pointer (some ⟨bp, 0, none⟩), .func (.func g) #[] lb, valT y, undef, undef, undef, undef], defers := [] } ∧ ∀ i v, (cellsT y)[i]? = some v → X.cell? ⟨bp, i, none⟩ = some v)
    ?ax ?assign ?body ?done ?stop
  case ax =>
    rintro y a' _ X Y row ⟨bp, h1, h2⟩ hg hr
    exact ⟨bp, h1, fun i v h => cell_kept (h2 i v h) hg (fun r e => (hr r e).2)⟩
  case assign =>
    intro l2 k y X K _ _ hK
    obtain ⟨⟨yk, yA, yc, yl⟩, yn, ym, ysA, ysc, yss, ycA, ycc, ycs, yvA, yvc, yvs⟩ := y
    unfold encT
    simp only [valT, cellsT, Sc.k, Sc.v1, Vl.n, Vl.m, Vl.s1, Vl.c1, Vl.v1]
    gi_wp2
    exact hK _ _ (allocB _ _) ⟨X.heap.size, rfl, fun i v h => alloc_cells i v h⟩
  case body =>
    rintro l2 k y a' X hXs hx ⟨⟨h1, h2⟩, h3, h4⟩ ⟨bp, rfl, hc⟩
    have HX := Lib.hid hx
    have hb := h2
    have hcl := h1.cell
    have hcf := h1.frozen
    have HR := Lib.hid (HF.out y (List.mem_of_getElem? hx) X ((HM.out y (List.mem_of_getElem? hx)).later h2))
    obtain ⟨q, hq⟩ : ∃ q, p y = q := ⟨_, rfl⟩
    have HQ := Lib.hid hq
    have HP := Lib.hid h4
    rw [hq] at HR
    clear hx hq h4
    obtain ⟨⟨yk, yA, yc, yl⟩, yn, ym, ysA, ysc, yss, ycA, ycc, ycs, yvA, yvc, yvs⟩ := y
    have e0 := hc 0 _ rfl
    have e1 := hc 1 _ rfl
    have e2 := hc 2 _ rfl
    have e3 := hc 3 _ rfl
    have e4 := hc 4 _ rfl
    have e5 := hc 5 _ rfl
    have e6 := hc 6 _ rfl
    simp only [valT, cellsT, Sc.k, Sc.v1, Vl.n, Vl.m, Vl.s1, Vl.c1, Vl.v1] at e0 e1 e2 e3 e4 e5 e6 HR ⊢
    clear hc
    gi_wp2_with fail
    refine ⟨trivial, rfl, (CallsIn.inRound l2 (callsIn_wide.2 HR.out)).mono ?_⟩
    clear HR e0 e1 e2 e3 e4 e5 e6
    rintro e X5 ⟨rfl, hb5⟩
    have g1 : Boxed X5 (w.heap.size + 1) 4 (.bool false) := (hb5.block _ (by omega)).trans h1
    have g3 := (hb5.cell (p := ⟨w.heap.size, 0, none⟩) (by simp only; omega)).trans h3
    have hB5 : Below w.heap.size w X5 := h2.trans (hb5.mono h2.size)
    cases q with
    | true =>
      gi_wp2_with fail
      exact ⟨KN.of_below hb5, ⟨⟨g1, hB5⟩, g3, by rw [all_take_succ HX.out, HP.out, HQ.out]; rfl⟩, HOK.out _ (List.mem_of_getElem? HX.out) HQ.out⟩
    | false =>
      have hcl5 := g1.cell
      have hcf5 := g1.frozen
      gi_wp2_with fail
      exact ⟨(KF.of_below hb5).trans (KF.set (by omega) _), ⟨g1.set _, hB5.setCell (by first | omega | (simp; omega) | simp) _⟩, rfl, all_false HX.out HQ.out⟩
  case done =>
    rintro E X hE ⟨⟨hR, hB⟩, -, hp⟩ hK
    have hcl := hR.cell
    have hcf := hR.frozen
    rw [List.take_length] at hp
    have HP := Lib.hid hp
    clear hp
    gi_wp2
    have hne : w.heap.size + 1 ≠ E := by omega
    have hK2 : (X.setCell ⟨w.heap.size + 1, 0, none⟩ (.bool true)).heap[E]? = some (.deferred (some [])) := (Below.heap_setCell _ _ _ _ (Ne.symm hne)).trans hK
    refine ⟨by simp, .inl ⟨_, _, rfl, run_takeDeferred hK2, ?_⟩⟩
    refine ⟨_, results_cell1 rfl rfl _ _ (w.heap.size + 1) (.bool true) rfl ((World.cell?_of_block (World.putObj_heap_other hne)).trans (hR.set (.bool true)).cell), ?_⟩
    rw [HP.out]
    exact ⟨rfl, (hB.setCell (by first | omega | (simp; omega) | simp) _).trans ⟨rfl, rfl, rfl, by simp, fun q hq => World.putObj_heap_other (by omega)⟩⟩
  case stop =>
    rintro E c k X hE hk ⟨⟨hR, hB⟩, rfl, hp⟩ hK
    have hcl := hR.cell
    have HP := Lib.hid hp
    clear hp
    gi_wp2
    have hne : w.heap.size + 1 ≠ E := by omega
    refine ⟨by simp, .inl ⟨_, _, rfl, run_takeDeferred hK, ?_⟩⟩
    refine ⟨_, results_cell1 rfl rfl _ _ (w.heap.size + 1) (.bool false) rfl ((World.cell?_of_block (World.putObj_heap_other hne)).trans hcl), ?_⟩
    rw [HP.out]
    exact ⟨rfl, hB.trans ⟨rfl, rfl, rfl, by simp, fun q hq => World.putObj_heap_other (by omega)⟩⟩

set_option maxRecDepth 100000 in
set_option maxHeartbeats 1000000 in
theorem every_clock (p : Ck → Bool) (zs : List (Ck)) (hf : ∀ x ∈ zs, ∀ W, InC W x → Calls Tryz.prog 116 #[Ck.v x] W (RetV W (.bool (p x)))) (ok : Ck → Prop) (hok : ∀ x ∈ zs, p x = true → ok x) (g : Nat) (lb : Array Value) (eg : Enters Tryz.prog g) (w : World)
    (hseq : ∀ D w2, Below w.heap.size w w2 → w.heap.size ≤ D → D < w2.heap.size → SeqO Tryz.prog g lb encC D ok zs w2) (hmem : ∀ x ∈ zs, InC w x) :
    Calls Tryz.prog 117 #[.func (.func g) #[] lb, .func (.func 116) #[] #[]] w (RetV w (.bool (zs.all p))) := by
  have HF := Lib.hid hf
  have HOK := Lib.hid hok
  have HE := Lib.hid eg
  have HS := Lib.hid hseq
  have HM := Lib.hid hmem
  clear hf hok eg hseq hmem
  refine (callsIn_wide (n := 6)).1 (callsIn_of_wp_marks Tryz.func117 rfl trivial ?_ rfl)
  simp only [Tryz.ntmps117, List.size_toArray, List.length_cons, List.length_nil, Nat.reduceAdd, Nat.reduceSub, Array.replicate_succ, Array.replicate_zero, List.push_toArray, List.append_toArray, List.nil_append, List.cons_append]
  gi_wp2_with fail
  obtain ⟨V, hV⟩ : ∃ V, (w.alloc (.cells #[.func (.func 116) #[] #[]] 96)).alloc (.cells #[.bool false] 4) = V := ⟨_, rfl⟩
  have hB0 : Below w.heap.size w V := by rw [← hV]; exact belAl (belAl (Below.refl _ _))
  have hsz : V.heap.size = w.heap.size + 2 := by rw [← hV]; simp
  have bR : Boxed V (w.heap.size + 1) 4 (.bool false) := by
    have := Boxed.new (w.alloc (.cells #[.func (.func 116) #[] #[]] 96)) 4 (.bool false)
    rw [World.size_alloc, hV] at this
    exact this
  have cI : V.cell? ⟨w.heap.size, 0, none⟩ = some (.func (.func 116) #[] #[]) := by
    rw [← hV]
    exact ((belAl1 (Below.refl (w.heap.size + 1) (w.alloc (.cells #[.func (.func 116) #[] #[]] 96))) (by simp)).cell (p := ⟨w.heap.size, 0, none⟩) (by simp)).trans (alloc_cells 0 _ rfl)
  rw [hV]
  clear hV
  refine range_own rfl HE.out (HS.out (w.heap.size + 1) V hB0 (by omega) (by omega)) (fun _ => rfl)
    (fun k X => (Boxed X (w.heap.size + 1) 4 (.bool false) ∧ Below w.heap.size w X) ∧ X.cell? ⟨w.heap.size, 0, none⟩ = some (.func (.func 116) #[] #[]) ∧ (zs.take k).all p = true)
    (fun c _ X => (Boxed X (w.heap.size + 1) 4 (.bool false) ∧ Below w.heap.size w X) ∧ c = .ret ∧ zs.all p = false)
    (fun k X Y ⟨⟨h1, h2⟩, h3, h4⟩ hb => ⟨⟨(hb.block _ (by omega)).trans h1, h2.trans (hb.mono (by omega))⟩, (hb.cell (p := ⟨w.heap.size, 0, none⟩) (by simp only; omega)).trans h3, h4⟩)
    (fun c k X Y ⟨⟨h1, h2⟩, h3⟩ hb => ⟨⟨(hb.block _ (by omega)).trans h1, h2.trans (hb.mono (by omega))⟩, h3⟩)
    ⟨⟨bR, hB0⟩, cI, rfl⟩
    (fun y a' _ => a' = { tmps := #[.func (.func g) #[] lb, .func (.func 116) #[] #[], undef, .pointer (some ⟨w.heap.size, 0, none⟩), .pointer (some ⟨w.heap.size + 1, 0, none⟩), Ck.v y, .func (.func g) #[] lb, Ck.v y, undef, undef, undef, undef], defers := [] })
    ?ax ?assign ?body ?done ?stop
  case ax =>
    rintro y a' _ X Y row h1 hg hr
    exact h1
  case assign =>
    intro l2 k y X K _ _ hK
    unfold encC
    gi_wp2
    exact hK _ _ (Below.refl _ _) rfl
  case body =>
    rintro l2 k y a' X hXs hx ⟨⟨h1, h2⟩, h3, h4⟩ rfl
    have HX := Lib.hid hx
    have hb := h2
    have hcl := h1.cell
    have hcf := h1.frozen
    have HR := Lib.hid (HF.out y (List.mem_of_getElem? hx) X ((HM.out y (List.mem_of_getElem? hx)).later h2))
    obtain ⟨q, hq⟩ : ∃ q, p y = q := ⟨_, rfl⟩
    have HQ := Lib.hid hq
    have HP := Lib.hid h4
    rw [hq] at HR
    clear hx hq h4

    gi_wp2_with fail
    refine ⟨trivial, rfl, (CallsIn.inRound l2 (callsIn_wide.2 HR.out)).mono ?_⟩
    clear HR
    rintro e X5 ⟨rfl, hb5⟩
    have g1 : Boxed X5 (w.heap.size + 1) 4 (.bool false) := (hb5.block _ (by omega)).trans h1
    have g3 := (hb5.cell (p := ⟨w.heap.size, 0, none⟩) (by simp only; omega)).trans h3
    have hB5 : Below w.heap.size w X5 := h2.trans (hb5.mono h2.size)
    cases q with
    | true =>
      gi_wp2_with fail
      exact ⟨KN.of_below hb5, ⟨⟨g1, hB5⟩, g3, by rw [all_take_succ HX.out, HP.out, HQ.out]; rfl⟩, HOK.out _ (List.mem_of_getElem? HX.out) HQ.out⟩
    | false =>
      have hcl5 := g1.cell
      have hcf5 := g1.frozen
      gi_wp2_with fail
      exact ⟨(KF.of_below hb5).trans (KF.set (by omega) _), ⟨g1.set _, hB5.setCell (by first | omega | (simp; omega) | simp) _⟩, rfl, all_false HX.out HQ.out⟩
  case done =>
    rintro E X hE ⟨⟨hR, hB⟩, -, hp⟩ hK
    have hcl := hR.cell
    have hcf := hR.frozen
    rw [List.take_length] at hp
    have HP := Lib.hid hp
    clear hp
    gi_wp2
    have hne : w.heap.size + 1 ≠ E := by omega
    have hK2 : (X.setCell ⟨w.heap.size + 1, 0, none⟩ (.bool true)).heap[E]? = some (.deferred (some [])) := (Below.heap_setCell _ _ _ _ (Ne.symm hne)).trans hK
    refine ⟨by simp, .inl ⟨_, _, rfl, run_takeDeferred hK2, ?_⟩⟩
    refine ⟨_, results_cell1 rfl rfl _ _ (w.heap.size + 1) (.bool true) rfl ((World.cell?_of_block (World.putObj_heap_other hne)).trans (hR.set (.bool true)).cell), ?_⟩
    rw [HP.out]
    exact ⟨rfl, (hB.setCell (by first | omega | (simp; omega) | simp) _).trans ⟨rfl, rfl, rfl, by simp, fun q hq => World.putObj_heap_other (by omega)⟩⟩
  case stop =>
    rintro E c k X hE hk ⟨⟨hR, hB⟩, rfl, hp⟩ hK
    have hcl := hR.cell
    have HP := Lib.hid hp
    clear hp
    gi_wp2
    have hne : w.heap.size + 1 ≠ E := by omega
    refine ⟨by simp, .inl ⟨_, _, rfl, run_takeDeferred hK, ?_⟩⟩
    refine ⟨_, results_cell1 rfl rfl _ _ (w.heap.size + 1) (.bool false) rfl ((World.cell?_of_block (World.putObj_heap_other hne)).trans hcl), ?_⟩
    rw [HP.out]
    exact ⟨rfl, hB.trans ⟨rfl, rfl, rfl, by simp, fun q hq => World.putObj_heap_other (by omega)⟩⟩
end Go.Proofs.YtleejffjnknohaaGreat.V4

namespace Go.Proofs.YtleejffjnknohaaGreat.V4
open Go.RowKit
open C3 (Tk Asc isC ofC cmpC Nok In belAl allocB drewB RetT)
open S2 (Tr Sc isT)

theorem isT_ins {n : Nat} {k : Int} {l : List Tr} (h : isT (n + 1) (.mk k l) = true) : ∀ t ∈ l, isT n t = true := by
  rw [isT, Bool.and_eq_true] at h
  exact fun t ht => List.all_eq_true.1 h.2 t ht

end Go.Proofs.YtleejffjnknohaaGreat.V4

namespace Go.Proofs.YtleejffjnknohaaGreat.C3
open Go.RowKit

/-- A call that answers a place, not below 0 just if b. -/
def RetIx (w : World) (b : Bool) (e : Ending) (w' : World) : Prop := ∃ i : Int, e = .returned (.int .i64 i) ∧ decide (0 ≤ i) = b ∧ Below w.heap.size w w'

theorem any_succ {p : Tk → Bool} {l : List Tk} {k : Nat} {x : Tk} (h0 : (l.take k).any p = false) (hx : l[k]? = some x) (h : p x = false) : (l.take (k + 1)).any p = false := by
  obtain ⟨hi, he⟩ := List.getElem?_eq_some_iff.1 hx
  rw [List.take_succ_eq_append_getElem hi, List.any_append, h0, he]
  simp [h]
theorem any_end {p : Tk → Bool} {l : List Tk} {k : Nat} (h0 : (l.take k).any p = false) (h : l.length ≤ k) : l.any p = false := by rwa [List.take_of_length_le h] at h0
theorem any_yes {p : Tk → Bool} {l : List Tk} {k : Nat} {x : Tk} (hx : l[k]? = some x) (h : p x = true) : l.any p = true := List.any_eq_true.2 ⟨x, List.mem_of_getElem? hx, h⟩

set_option maxHeartbeats 400000 in
theorem indexWrong_any (A : Option Addr) (c : Nat) (l : List Tk) (w : World) (h : In w A c l) :
    Calls Tryz.prog 141 #[.slice A l.length c, .func (.func 134) #[] #[]] w (RetIx w (l.any bad)) := by
  obtain ⟨hl, hcap, htop, -⟩ := h
  have hlm : l.length ≤ 9223372036854775807 := by unfold maxLen at htop; omega
  clear hcap htop
  go_enter Tryz.func141, Tryz.ntmps141
  go_wp2_with fail
  go_loopw [8] (fun iv wr => ∃ k : Nat, k ≤ l.length ∧ iv = .int .i64 k ∧ Hid ((l.take k).any bad = false) ∧ Below w.heap.size w wr) (fun iv _ => l.length - (intOf iv).toNat)
  case atStart => exact ⟨0, Nat.zero_le _, rfl, by simp [Hid], Below.refl _ _⟩
  case round =>
    obtain ⟨k, hk, rfl, h0, hbw⟩ := hrel
    by_cases hlt : k < l.length
    · obtain ⟨b, off, rfl, hb, hc⟩ := (hl.below hbw).get hlt
      obtain ⟨x, hx⟩ : ∃ x, l[k]? = some x := ⟨_, List.getElem?_eq_getElem hlt⟩
      obtain ⟨hc0, hc1⟩ := hc k x hx
      have HX := Lib.hid hx
      clear hx hc hl
      obtain ⟨xk, xn⟩ := x
      dsimp only at hc0 hc1
      obtain ⟨q, hq⟩ : ∃ q, bad ⟨xk, xn⟩ = q := ⟨_, rfl⟩
      have HQ := Lib.hid hq
      clear hq
      go_wp2_with fail
      refine (wrong_any xk xn wr).mono ?_
      rintro e w' ⟨rfl, hb2⟩
      have hb3 : Below w.heap.size w w' := hbw.trans (hb2.mono hbw.size)
      rw [HQ.out]
      cases q with
      | true =>
        go_wp2_with fail
        go_ret
        exact ⟨_, rfl, (by rw [any_yes HX.out HQ.out]; exact decide_eq_true (by omega)), hb3⟩
      | false =>
        go_wp2_with fail
        go_roundw
        case rel => exact ⟨k + 1, by omega, by go_num, any_succ h0.out HX.out HQ.out, hb3⟩
        case measure => simp [intOf]; omega
    · go_wp2_with fail
      go_ret
      exact ⟨_, rfl, (by rw [any_end h0.out (by omega)]; rfl), hbw⟩

set_option maxHeartbeats 400000 in
theorem containsWrong_any (A : Option Addr) (c : Nat) (l : List Tk) (w : World) (h : In w A c l) :
    Calls Tryz.prog 133 #[.slice A l.length c, .func (.func 134) #[] #[]] w (RetV w (.bool (l.any bad))) := by
  have HA := Lib.hid h
  clear h
  go_enter Tryz.func133, Tryz.ntmps133
  go_wp2_with fail
  refine (indexWrong_any A c l w HA.out).mono ?_
  rintro e w' ⟨i, rfl, hi, hb⟩
  have HI := Lib.hid hi
  clear hi
  go_wp2_with fail
  go_ret
  exact ⟨ret_bool HI.out, hb⟩

set_option maxHeartbeats 400000 in
theorem Is_any (A : Option Addr) (c : Nat) (l : List Tk) (w : World) (h : In w A c l) :
    Calls Tryz.prog 116 #[.slice A l.length c] w (RetV w (.bool (isC l))) := by
  have HA := Lib.hid h
  have hlm : l.length ≤ 9223372036854775807 := by have := h.cap; have := h.top; unfold maxLen at this; omega
  clear h
  by_cases c1 : l.length ≤ 40
  · obtain ⟨p, hp⟩ : ∃ p, decide (Asc l) = p := ⟨_, rfl⟩
    obtain ⟨q, hq⟩ : ∃ q, l.any bad = q := ⟨_, rfl⟩
    have HR : Hid (isC l = (p && !q)) := by show isC l = _; unfold isC; rw [decide_eq_true c1, hp, hq]; rfl
    rw [HR.out]
    have HP := Lib.hid hp
    have HQ := Lib.hid hq
    clear hp hq
    go_enter Tryz.func116, Tryz.ntmps116
    go_wp2_with fail
    refine (rises_any A c l w HA.out).mono ?_
    rintro e w1 ⟨rfl, hb1⟩
    rw [HP.out]
    cases p with
    | false =>
      go_wp2_with fail
      go_ret
      exact ⟨rfl, hb1⟩
    | true =>
      go_wp2_with fail
      refine (containsWrong_any A c l w1 (HA.out.later hb1)).mono ?_
      rintro e w2 ⟨rfl, hb2⟩
      rw [HQ.out]
      go_wp2_with fail
      go_ret
      exact ⟨by simp, hb1.trans (hb2.mono hb1.size)⟩
  · have HR : Hid (isC l = false) := by show isC l = _; unfold isC; rw [decide_eq_false c1]; rfl
    rw [HR.out]
    have d1 : decide ((l.length : Int) ≤ 40) = false := decide_eq_false (by omega)
    go_enter Tryz.func116, Tryz.ntmps116
    go_wp2_with fail
    go_ret
    exact ⟨rfl, Below.refl _ _⟩

end Go.Proofs.YtleejffjnknohaaGreat.C3

namespace Go.Proofs.YtleejffjnknohaaGreat.C3
open Go.RowKit

theorem take_mono {xs : List Tk} {q : Int} {m : Nat} {y : Tk} (h : Asc xs) (hy : xs[m]? = some y) (hlt : y.k < q) : ∀ x ∈ xs.take (m + 1), x.k < q := by
  intro x hx
  obtain ⟨hm, he⟩ := List.getElem?_eq_some_iff.1 hy
  obtain ⟨i, hi, rfl⟩ := List.mem_iff_getElem.1 hx
  simp only [List.getElem_take]
  have hi' : i < m + 1 := by simp at hi; omega
  rcases Nat.lt_or_ge i m with h1 | h1
  · have := List.pairwise_iff_getElem.1 h i m (by omega) hm h1
    rw [he] at this
    exact Int.lt_trans this hlt
  · have : i = m := by omega
    subst this
    rw [he]; exact hlt

theorem drop_mono {xs : List Tk} {q : Int} {m : Nat} {y : Tk} (h : Asc xs) (hy : xs[m]? = some y) (hge : q ≤ y.k) : ∀ x ∈ xs.drop m, q ≤ x.k := by
  intro x hx
  obtain ⟨hm, he⟩ := List.getElem?_eq_some_iff.1 hy
  rw [List.drop_eq_getElem_cons hm, he] at hx
  rcases List.mem_cons.1 hx with e | e
  · rw [e]; exact hge
  · have hp : Asc (xs.drop m) := List.Pairwise.drop h
    rw [List.drop_eq_getElem_cons hm, he] at hp
    have := (List.pairwise_cons.1 hp).1 x e
    omega

theorem found_no {xs : List Tk} {q : Int} {m : Nat} (h : Asc xs) (h1 : ∀ x ∈ xs.take m, x.k < q) (h2 : ∀ y, xs[m]? = some y → q < y.k) : ∀ x ∈ xs, x.k ≠ q := by
  intro s hs e
  rw [← List.take_append_drop m xs] at hs
  rcases List.mem_append.1 hs with k | k
  · have := h1 s k
    omega
  · cases hx : xs[m]? with
    | none =>
      rw [List.getElem?_eq_none_iff] at hx
      rw [List.drop_eq_nil_of_le hx] at k
      cases k
    | some y =>
      have hlt := h2 y hx
      have := drop_mono (q := y.k) h hx (Int.le_refl _) s k
      omega

/-- A call that answers a place and whether it is there. -/
def RetPos (l : List Tk) (q : Int) (w : World) (e : Ending) (w' : World) : Prop :=
  ∃ (m : Nat) (b : Bool), e = .returned (.tuple #[.int .i64 m, .bool b]) ∧ (b = true → ∃ x, l[m]? = some x ∧ x.k = q) ∧ (b = false → ∀ x ∈ l, x.k ≠ q) ∧ Below w.heap.size w w'

set_option maxRecDepth 100000 in
set_option maxHeartbeats 1000000 in
theorem search_any (A : Option Addr) (c : Nat) (l : List Tk) (q tn : Int) (w : World) (h : In w A c l) (ha : Asc l) (hlen : l.length ≤ 1000) :
    Calls Tryz.prog 143 #[.slice A l.length c, .agg #[.int .i64 q, .int .u64 tn], .func (.func 100) #[] #[]] w (RetPos l q w) := by
  obtain ⟨hl, -, -, -⟩ := h
  have HS := Lib.hid ha
  clear ha
  go_enter Tryz.func143, Tryz.ntmps143
  go_wp2_with fail
  go_loopw [9, 10] (fun i j wr => ∃ lo hi : Nat, lo ≤ hi ∧ hi ≤ l.length ∧ i = .int .i64 lo ∧ j = .int .i64 hi ∧ Hid (∀ x ∈ l.take lo, x.k < q) ∧ Hid (∀ x ∈ l.drop hi, q ≤ x.k) ∧ Below w.heap.size w wr ∧
    wr.cell? ⟨w.heap.size, 0, none⟩ = some (.int .i64 q) ∧ wr.cell? ⟨w.heap.size, 1, none⟩ = some (.int .u64 tn) ∧ w.heap.size < wr.heap.size) (fun i j _ => (intOf j).toNat - (intOf i).toNat)
  case atStart => exact ⟨0, l.length, Nat.zero_le _, Nat.le_refl _, rfl, rfl, by simp [Hid], by simp [Hid], allocB _ _, by simp, by simp, by simp⟩
  case round =>
    obtain ⟨lo, hi, hlh, hin, rfl, rfl, h1, h2, hbw, hx0, hx1, hsz⟩ := hrel
    by_cases hlt : lo < hi
    · have hmid : (lo + hi) / 2 < l.length := by omega
      obtain ⟨b, off, rfl, hb, hc⟩ := (hl.below hbw).get hmid
      obtain ⟨y, hy⟩ : ∃ y, l[(lo + hi) / 2]? = some y := ⟨_, List.getElem?_eq_getElem hmid⟩
      obtain ⟨hc0, hc1⟩ := hc _ y hy
      have HY := Lib.hid hy
      clear hy hc hl
      obtain ⟨yk, yn⟩ := y
      dsimp only at hc0 hc1
      have hmI : ((lo : Int) + (hi : Int)) / 2 < (l.length : Int) := by omega
      have hmN : (((lo : Int) + (hi : Int)) / 2).toNat = (lo + hi) / 2 := by omega
      have hm0 : 0 ≤ ((lo : Int) + (hi : Int)) / 2 := by omega
      have hmE : ((lo : Int) + (hi : Int)) / 2 = (((lo + hi) / 2 : Nat) : Int) := by omega
      have HME := Lib.hid hmE
      have HBW := Lib.hid hbw
      clear hmE hbw
      go_wp2_with fail
      go_still_tail 6, (by kernel_rfl)
      change wpList _ _ _ _ _ wr.drew
      clear hmI hmN hm0
      go_wp2_with fail
      refine (byWho_any yk yn q tn _).mono ?_
      rintro e w4 ⟨rfl, hb4⟩
      have hbw4 : Below w.heap.size w w4 := (HBW.out.drew).trans (hb4.mono HBW.out.size)
      have hy0 : w4.cell? ⟨w.heap.size, 0, none⟩ = some (.int .i64 q) := (hb4.cell (p := ⟨w.heap.size, 0, none⟩) hsz).trans hx0
      have hy1 : w4.cell? ⟨w.heap.size, 1, none⟩ = some (.int .u64 tn) := (hb4.cell (p := ⟨w.heap.size, 1, none⟩) hsz).trans hx1
      have hsz4 : w.heap.size < w4.heap.size := Nat.lt_of_lt_of_le hsz hb4.size
      clear hb4 hx0 hx1 hsz hc0 hc1
      rw [HME.out]
      by_cases c4 : yk < q
      · have HC := Lib.hid c4
        rw [cmpI_lt c4]
        clear c4
        go_wp2_with fail
        go_roundw
        case rel => exact ⟨(lo + hi) / 2 + 1, hi, by omega, hin, by go_num, rfl, take_mono HS.out HY.out HC.out, h2, hbw4, hy0, hy1, hsz4⟩
        case measure => simp [intOf]; omega
      · have HC : Hid (q ≤ yk) := by show q ≤ yk; omega
        have c5 : 0 ≤ cmpI yk q := by unfold cmpI; rw [if_neg c4]; split <;> omega
        generalize cmpI yk q = z at *
        clear c4
        go_wp2_with fail
        go_roundw
        case rel => exact ⟨lo, (lo + hi) / 2, by omega, by omega, rfl, by go_num, h1, drop_mono HS.out HY.out HC.out, hbw4, hy0, hy1, hsz4⟩
        case measure => simp [intOf]; omega
    · obtain rfl : lo = hi := by omega
      by_cases hmid : lo < l.length
      · obtain ⟨b, off, rfl, hb, hc⟩ := (hl.below hbw).get hmid
        obtain ⟨y, hy⟩ : ∃ y, l[lo]? = some y := ⟨_, List.getElem?_eq_getElem hmid⟩
        obtain ⟨hc0, hc1⟩ := hc _ y hy
        have HY := Lib.hid hy
        have HM : Hid (q ≤ y.k) := h2.out y (by rw [drop_at hy]; simp)
        clear hy hc hl
        obtain ⟨yk, yn⟩ := y
        dsimp only at hc0 hc1 HM
        have hli : (lo : Int) < (l.length : Int) := by omega
        have hbb : b < wr.heap.size := Nat.lt_of_lt_of_le hb hbw.size
        have HBW : Hid (Below w.heap.size w wr.drew) := hbw.drew
        clear hbw
        by_cases c4 : yk = q
        · have HC := Lib.hid c4
          have HZ : Hid (cmpI yk q = 0) := by show cmpI yk q = 0; rw [c4, cmpI_eq]
          clear c4
          go_wp2_with fail
          go_region_held3 (fun w' => w'.cell? ⟨b, off + lo * 2, none⟩ = some (.int .i64 yk) ∧ w'.cell? ⟨b, off + lo * 2 + 1, none⟩ = some (.int .u64 yn) ∧ w'.cell? ⟨w.heap.size, 0, none⟩ = some (.int .i64 q) ∧ w'.cell? ⟨w.heap.size, 1, none⟩ = some (.int .u64 tn))
            (first
              | exact ⟨hc0, hc1, hx0, hx1⟩)
            (first
              | (go_at_call 100; refine (byWho_any yk yn q tn _).mono ?_; rintro e w4 ⟨rfl, hb4⟩; (rw [HZ.out]; replace hc0 := (hb4.cell (p := ⟨b, off + lo * 2, none⟩) hbb).trans hc0; replace hc1 := (hb4.cell (p := ⟨b, off + lo * 2 + 1, none⟩) hbb).trans hc1; replace hx0 := (hb4.cell (p := ⟨w.heap.size, 0, none⟩) hsz).trans hx0; replace hx1 := (hb4.cell (p := ⟨w.heap.size, 1, none⟩) hsz).trans hx1; replace HBW : Hid (Below w.heap.size w w4) := HBW.out.trans (hb4.mono HBW.out.size); clear hb4)))
          go_wp2_with fail
          go_ret2
          exact ⟨lo, true, rfl, fun _ => ⟨_, HY.out, HC.out⟩, (fun h => by cases h), HBW.out⟩
        · have HC := Lib.hid c4
          have HZ : Hid (cmpI yk q = 1) := cmpI_gt (by have := HM.out; omega)
          clear c4
          go_wp2_with fail
          go_region_held3 (fun w' => w'.cell? ⟨b, off + lo * 2, none⟩ = some (.int .i64 yk) ∧ w'.cell? ⟨b, off + lo * 2 + 1, none⟩ = some (.int .u64 yn) ∧ w'.cell? ⟨w.heap.size, 0, none⟩ = some (.int .i64 q) ∧ w'.cell? ⟨w.heap.size, 1, none⟩ = some (.int .u64 tn))
            (first
              | exact ⟨hc0, hc1, hx0, hx1⟩)
            (first
              | (go_at_call 100; refine (byWho_any yk yn q tn _).mono ?_; rintro e w4 ⟨rfl, hb4⟩; (rw [HZ.out]; replace hc0 := (hb4.cell (p := ⟨b, off + lo * 2, none⟩) hbb).trans hc0; replace hc1 := (hb4.cell (p := ⟨b, off + lo * 2 + 1, none⟩) hbb).trans hc1; replace hx0 := (hb4.cell (p := ⟨w.heap.size, 0, none⟩) hsz).trans hx0; replace hx1 := (hb4.cell (p := ⟨w.heap.size, 1, none⟩) hsz).trans hx1; replace HBW : Hid (Below w.heap.size w w4) := HBW.out.trans (hb4.mono HBW.out.size); clear hb4)))
          go_wp2_with fail
          go_ret2
          refine ⟨lo, false, rfl, (fun h => by cases h), fun _ => found_no HS.out h1.out fun z hz => ?_, HBW.out⟩
          have e := HY.out
          rw [hz] at e
          cases e
          have := HM.out
          have := HC.out
          show q < yk
          omega
      · have d1 : decide ((lo : Int) < (l.length : Int)) = false := decide_eq_false (by omega)
        go_wp2_with fail
        go_quiet (fail)
        go_wp2_with fail
        go_ret2
        exact ⟨lo, false, rfl, (fun h => by cases h), fun _ => found_no HS.out h1.out fun z hz => absurd (List.getElem?_eq_some_iff.1 hz).1 hmid, below_drewN hbw _⟩
end Go.Proofs.YtleejffjnknohaaGreat.C3

namespace Go.Proofs.YtleejffjnknohaaGreat.C3
open Go.RowKit

@[go_sem] theorem run_field_n (k n : Int) (w : World) : (Instr.field 57 (.agg #[.int .i64 k, .int .u64 n]) 1).run Tryz.prog w = .ok (.int .u64 n) w := by
  have h := run_underlying (P := Tryz.prog) (w := w) Tryz.underlying57
  have h2 := run_underlying (P := Tryz.prog) (w := w) Tryz.underlying28
  simp [Instr.field, h, h2, part, asAgg, isAgg]

/-- A call that answers a tick whose number is n. -/
def RetFn (w : World) (n : Int) (e : Ending) (w' : World) : Prop := ∃ k : Int, e = .returned (.agg #[.int .i64 k, .int .u64 n]) ∧ Below w.heap.size w w'

set_option maxRecDepth 100000 in
set_option maxHeartbeats 1000000 in
theorem found_any (A : Option Addr) (c : Nat) (l : List Tk) (q : Int) (w : World) (h : In w A c l) (ha : Asc l) (hlen : l.length ≤ 1000) :
    Calls Tryz.prog 142 #[.slice A l.length c, .agg #[.int .i64 q, .int .u64 0], .func (.func 100) #[] #[]] w (RetFn w (ofC l q)) := by
  have HB0 : Hid (Below w.heap.size w (((w.alloc (.cells #[.int .i64 q, .int .u64 0] 57)).alloc (.cells #[.int .i64 0, .int .u64 0] 57)).alloc (.cells #[.int .i64 0, .int .u64 0] 57))) := belAl (belAl (belAl (Below.refl _ _)))
  have HA := Lib.hid (h.later HB0.out)
  have HS := Lib.hid ha
  clear h ha
  go_enter Tryz.func142, Tryz.ntmps142
  go_wp2_with fail
  refine (search_any A c l q 0 _ HA.out HS.out hlen).mono ?_
  rintro e w4 ⟨m, p, rfl, hy, hn, hb2⟩
  have HB4 : Hid (Below w.heap.size w w4) := HB0.out.trans (hb2.mono HB0.out.size)
  have hq0 : w4.cell? ⟨w.heap.size + 1, 0, none⟩ = some (.int .i64 0) := (hb2.cell (p := ⟨w.heap.size + 1, 0, none⟩) (by simp)).trans (by go_simp)
  have hq1 : w4.cell? ⟨w.heap.size + 1, 1, none⟩ = some (.int .u64 0) := (hb2.cell (p := ⟨w.heap.size + 1, 1, none⟩) (by simp)).trans (by go_simp)
  have hp0 : w4.cell? ⟨w.heap.size + 1 + 1, 0, none⟩ = some (.int .i64 0) := (hb2.cell (p := ⟨w.heap.size + 1 + 1, 0, none⟩) (by simp)).trans (by go_simp)
  have hp1 : w4.cell? ⟨w.heap.size + 1 + 1, 1, none⟩ = some (.int .u64 0) := (hb2.cell (p := ⟨w.heap.size + 1 + 1, 1, none⟩) (by simp)).trans (by go_simp)
  have hf0 : w4.frozen? ⟨w.heap.size + 1, 0, none⟩ = false := (hb2.frozen (p := ⟨w.heap.size + 1, 0, none⟩) (by simp)).trans (by go_simp)
  have hf1 : w4.frozen? ⟨w.heap.size + 1, 1, none⟩ = false := (hb2.frozen (p := ⟨w.heap.size + 1, 1, none⟩) (by simp)).trans (by go_simp)
  have hs4 : w.heap.size + 1 < w4.heap.size := Nat.lt_of_lt_of_le (by simp) hb2.size
  cases p with
  | true =>
    obtain ⟨x, hx, he⟩ := hy rfl
    have HV : Hid (ofC l q = x.n) := by show ofC l q = x.n; rw [← he]; exact ofC_mem HS.out (List.mem_of_getElem? hx)
    have hm : m < l.length := (List.getElem?_eq_some_iff.1 hx).1
    have hin4 := HA.out.later hb2
    obtain ⟨b, off, rfl, hb, hc⟩ := hin4.lies.get hm
    obtain ⟨hc0, hc1⟩ := hc m x hx
    obtain ⟨xk, xn⟩ := x
    dsimp only at hc0 hc1 HV
    clear hx he hy hn hc hin4 hb2 HA HB0
    go_wp2_with fail
    refine bodyPost_ret (results_cellT rfl _ _ (w.heap.size + 1) (.int .i64 xk) (.int .u64 xn) rfl (by go_simp) (by go_simp)) rfl ?_
    exact ⟨xk, by rw [HV.out], (HB4.out.setCell (by simp) _).setCell (by simp) _⟩
  | false =>
    have HV : Hid (ofC l q = 0) := ofC_none (hn rfl)
    clear hy hn hb2 HA HB0
    go_wp2_with fail
    refine bodyPost_ret (results_cellT rfl _ _ (w.heap.size + 1) (.int .i64 0) (.int .u64 0) rfl (by go_simp) (by go_simp)) rfl ?_
    exact ⟨0, by rw [HV.out], (HB4.out.setCell (by simp) _).setCell (by simp) _⟩

set_option maxHeartbeats 400000 in
theorem Of_any (A : Option Addr) (c : Nat) (l : List Tk) (q : Int) (w : World) (h : In w A c l) (ha : Asc l) (hlen : l.length ≤ 1000) :
    Calls Tryz.prog 140 #[.slice A l.length c, .int .i64 q] w (RetV w (.int .u64 (ofC l q))) := by
  have HA := Lib.hid h
  have HS := Lib.hid ha
  clear h ha
  go_enter Tryz.func140, Tryz.ntmps140
  go_wp2_with fail
  refine (found_any A c l q w HA.out HS.out hlen).mono ?_
  rintro e w' ⟨k, rfl, hb⟩
  go_wp2_with fail
  go_ret
  exact ⟨rfl, hb⟩
end Go.Proofs.YtleejffjnknohaaGreat.C3

namespace Go.Proofs.YtleejffjnknohaaGreat.C3
open Go.RowKit

set_option maxHeartbeats 400000 in
theorem ahead_any (B : Nat) (A : Option Addr) (c : Nat) (l : List Tk) (xk xn : Int) (w : World) (hB : B < w.heap.size) (hc : w.cell? ⟨B, 0, none⟩ = some (.slice A l.length c)) (h : In w A c l) (ha : Asc l) (hlen : l.length ≤ 1000) :
    Calls Tryz.prog 139 #[.agg #[.int .i64 xk, .int .u64 xn], .pointer (some ⟨B, 0, none⟩)] w (RetV w (.bool (decide (ofC l xk < xn)))) := by
  have HB0 : Hid (Below w.heap.size w (w.alloc (.cells #[.int .i64 xk, .int .u64 xn] 57)).drew) := (allocB _ _).drew
  have HA := Lib.hid (h.later HB0.out)
  have HS := Lib.hid ha
  clear h ha
  go_enter Tryz.func139, Tryz.ntmps139
  go_wp2_with fail
  have e0 : (w.alloc (.cells #[.int .i64 xk, .int .u64 xn] 57)).cell? ⟨w.heap.size, 0, none⟩ = some (.int .i64 xk) := by simp
  have e1 : (w.alloc (.cells #[.int .i64 xk, .int .u64 xn] 57)).cell? ⟨w.heap.size, 1, none⟩ = some (.int .u64 xn) := by simp
  have e2 : (w.alloc (.cells #[.int .i64 xk, .int .u64 xn] 57)).cell? ⟨B, 0, none⟩ = some (.slice A l.length c) := ((allocB w _).cell (p := ⟨B, 0, none⟩) hB).trans hc
  generalize (w.alloc (.cells #[.int .i64 xk, .int .u64 xn] 57)) = W0 at *
  have hB2 : B < W0.heap.size := World.block_lt_of_cell? W0 _ e2
  have hs2 : w.heap.size < W0.heap.size := World.block_lt_of_cell? W0 _ e0
  obtain ⟨z, hz⟩ : ∃ z, ofC l xk = z := ⟨_, rfl⟩
  have HZ := Lib.hid hz
  clear hB hc hz
  go_region_held3 (fun w' => w'.cell? ⟨w.heap.size, 0, none⟩ = some (.int .i64 xk) ∧ w'.cell? ⟨w.heap.size, 1, none⟩ = some (.int .u64 xn) ∧ w'.cell? ⟨B, 0, none⟩ = some (.slice A l.length c))
    (first
      | exact ⟨e0, e1, e2⟩)
    (first
      | (go_at_call 140; refine (Of_any A c l xk _ HA.out HS.out hlen).mono ?_; rintro e w4 ⟨rfl, hb4⟩; (rw [HZ.out]; replace e0 := (hb4.cell (p := ⟨w.heap.size, 0, none⟩) hs2).trans e0; replace e1 := (hb4.cell (p := ⟨w.heap.size, 1, none⟩) hs2).trans e1; replace e2 := (hb4.cell (p := ⟨B, 0, none⟩) hB2).trans e2; replace HB0 : Hid (Below w.heap.size w w4) := HB0.out.trans (hb4.mono HB0.out.size); clear hb4)))
  go_wp2_with fail
  go_ret
  exact ⟨(by rw [HZ.out]; rfl), HB0.out⟩

def aheadC (l' : List Tk) (t : Tk) : Bool := decide (ofC l' t.k < t.n)

set_option maxHeartbeats 400000 in
theorem indexAhead_any (B : Nat) (A A' : Option Addr) (c c' : Nat) (l l' : List Tk) (w : World) (h : In w A c l) (h' : In w A' c' l') (hB : B < w.heap.size) (hcB : w.cell? ⟨B, 0, none⟩ = some (.slice A' l'.length c')) (ha : Asc l') (hlen : l'.length ≤ 1000) :
    Calls Tryz.prog 141 #[.slice A l.length c, .func (.func 139) #[] #[.pointer (some ⟨B, 0, none⟩)]] w (RetIx w (l.any (aheadC l'))) := by
  obtain ⟨hl, hcap, htop, -⟩ := h
  have hlm : l.length ≤ 9223372036854775807 := by unfold maxLen at htop; omega
  have HA := Lib.hid h'
  have HS := Lib.hid ha
  have HCB := Lib.hid hcB
  have HB := Lib.hid hB
  clear hcap htop h' ha hcB hB
  go_enter Tryz.func141, Tryz.ntmps141
  go_wp2_with fail
  go_loopw [8] (fun iv wr => ∃ k : Nat, k ≤ l.length ∧ iv = .int .i64 k ∧ Hid ((l.take k).any (aheadC l') = false) ∧ Below w.heap.size w wr) (fun iv _ => l.length - (intOf iv).toNat)
  case atStart => exact ⟨0, Nat.zero_le _, rfl, by simp [Hid], Below.refl _ _⟩
  case round =>
    obtain ⟨k, hk, rfl, h0, hbw⟩ := hrel
    by_cases hlt : k < l.length
    · obtain ⟨b, off, rfl, hb, hc⟩ := (hl.below hbw).get hlt
      obtain ⟨x, hx⟩ : ∃ x, l[k]? = some x := ⟨_, List.getElem?_eq_getElem hlt⟩
      obtain ⟨hc0, hc1⟩ := hc k x hx
      have HX := Lib.hid hx
      clear hx hc hl
      obtain ⟨xk, xn⟩ := x
      dsimp only at hc0 hc1
      obtain ⟨q, hq⟩ : ∃ q, aheadC l' ⟨xk, xn⟩ = q := ⟨_, rfl⟩
      have HQ := Lib.hid hq
      have HQ2 : Hid (decide (ofC l' xk < xn) = q) := hq
      clear hq
      go_wp2_with fail
      refine (ahead_any B A' c' l' xk xn wr (Nat.lt_of_lt_of_le HB.out hbw.size) ((hbw.cell (p := ⟨B, 0, none⟩) HB.out).trans HCB.out) (HA.out.later hbw) HS.out hlen).mono ?_
      rintro e w' ⟨rfl, hb2⟩
      have hb3 : Below w.heap.size w w' := hbw.trans (hb2.mono hbw.size)
      rw [HQ2.out]
      cases q with
      | true =>
        go_wp2_with fail
        go_ret
        exact ⟨_, rfl, (by rw [any_yes HX.out HQ.out]; exact decide_eq_true (by omega)), hb3⟩
      | false =>
        go_wp2_with fail
        go_roundw
        case rel => exact ⟨k + 1, by omega, by go_num, any_succ h0.out HX.out HQ.out, hb3⟩
        case measure => simp [intOf]; omega
    · go_wp2_with fail
      go_ret
      exact ⟨_, rfl, (by rw [any_end h0.out (by omega)]; rfl), hbw⟩

set_option maxHeartbeats 400000 in
theorem containsAhead_any (B : Nat) (A A' : Option Addr) (c c' : Nat) (l l' : List Tk) (w : World) (h : In w A c l) (h' : In w A' c' l') (hB : B < w.heap.size) (hcB : w.cell? ⟨B, 0, none⟩ = some (.slice A' l'.length c')) (ha : Asc l') (hlen : l'.length ≤ 1000) :
    Calls Tryz.prog 133 #[.slice A l.length c, .func (.func 139) #[] #[.pointer (some ⟨B, 0, none⟩)]] w (RetV w (.bool (l.any (aheadC l')))) := by
  have HI0 := Lib.hid (indexAhead_any B A A' c c' l l' w h h' hB hcB ha hlen)
  clear h h' hB hcB ha
  go_enter Tryz.func133, Tryz.ntmps133
  go_wp2_with fail
  refine HI0.out.mono ?_
  rintro e w' ⟨i, rfl, hi, hb⟩
  have HI := Lib.hid hi
  clear hi
  go_wp2_with fail
  go_ret
  exact ⟨ret_bool HI.out, hb⟩

theorem under_any (l l' : List Tk) : (!l.any (aheadC l')) = underC l l' := by
  unfold underC
  induction l with
  | nil => rfl
  | cons x l ih =>
    rw [List.any_cons, List.all_cons, Bool.not_or, ih]
    congr 1
    unfold aheadC
    by_cases h : ofC l' x.k < x.n
    · rw [decide_eq_true h, decide_eq_false (by omega)]; rfl
    · rw [decide_eq_false h, decide_eq_true (by omega)]; rfl

set_option maxHeartbeats 400000 in
theorem within_any (A A' : Option Addr) (c c' : Nat) (l l' : List Tk) (w : World) (h : In w A c l) (h' : In w A' c' l') (ha : Asc l') (hlen : l'.length ≤ 1000) :
    Calls Tryz.prog 127 #[.slice A l.length c, .slice A' l'.length c'] w (RetV w (.bool (underC l l'))) := by
  have HB0 : Hid (Below w.heap.size w (w.alloc (.cells #[.slice A' l'.length c'] 55))) := allocB _ _
  have HC0 := Lib.hid (containsAhead_any w.heap.size A A' c c' l l' _ (h.later HB0.out) (h'.later HB0.out) (by simp) (by simp) ha hlen)
  clear h h' ha
  go_enter Tryz.func127, Tryz.ntmps127
  go_wp2_with fail
  refine HC0.out.mono ?_
  rintro e w' ⟨rfl, hb⟩
  go_wp2_with fail
  go_ret
  exact ⟨ret_bool (under_any l l'), HB0.out.trans (hb.mono HB0.out.size)⟩

set_option maxHeartbeats 400000 in
theorem Cmp_any (A A' : Option Addr) (c c' : Nat) (l l' : List Tk) (w : World) (h : In w A c l) (h' : In w A' c' l') (ha : Asc l) (ha' : Asc l') (hlen : l.length ≤ 1000) (hlen' : l'.length ≤ 1000) :
    Calls Tryz.prog 109 #[.slice A l.length c, .slice A' l'.length c'] w (RetV w (.int .i64 (cmpC l l'))) := by
  have HA := Lib.hid h
  have HB := Lib.hid h'
  have HS := Lib.hid ha
  have HS' := Lib.hid ha'
  clear h h' ha ha'
  obtain ⟨p, hp⟩ : ∃ p, underC l l' = p := ⟨_, rfl⟩
  obtain ⟨q, hq⟩ : ∃ q, underC l' l = q := ⟨_, rfl⟩
  have HC : Hid (cmpC l l' = cmpB p q) := by show cmpC l l' = _; unfold cmpC; rw [hp, hq]
  have HP := Lib.hid hp
  have HQ := Lib.hid hq
  clear hp hq
  rw [HC.out]
  go_enter Tryz.func109, Tryz.ntmps109
  go_wp2_with fail
  refine (within_any A A' c c' l l' w HA.out HB.out HS'.out hlen').mono ?_
  rintro e w1 ⟨rfl, hb1⟩
  rw [HP.out]
  go_wp2_with fail
  refine (within_any A' A c' c l' l w1 (HB.out.later hb1) (HA.out.later hb1) HS.out hlen).mono ?_
  rintro e w2 ⟨rfl, hb2⟩
  rw [HQ.out]
  have hb3 : Below w.heap.size w w2 := hb1.trans (hb2.mono hb1.size)
  cases p <;> cases q
  all_goals
    go_wp2_with fail
    go_ret
    exact ⟨rfl, hb3⟩
end Go.Proofs.YtleejffjnknohaaGreat.C3

namespace Go.Proofs.YtleejffjnknohaaGreat.V4
open Go.RowKit
open C3 (RetIx)

def longS (s : Str) : Bool := decide (16 < s.length)

theorem any_succ {α : Type} {p : α → Bool} {l : List α} {k : Nat} {x : α} (h0 : (l.take k).any p = false) (hx : l[k]? = some x) (h : p x = false) : (l.take (k + 1)).any p = false := by
  obtain ⟨hi, he⟩ := List.getElem?_eq_some_iff.1 hx
  rw [List.take_succ_eq_append_getElem hi, List.any_append, h0, he]
  simp [h]
theorem any_end {α : Type} {p : α → Bool} {l : List α} {k : Nat} (h0 : (l.take k).any p = false) (h : l.length ≤ k) : l.any p = false := by rwa [List.take_of_length_le h] at h0
theorem any_yes {α : Type} {p : α → Bool} {l : List α} {k : Nat} {x : α} (hx : l[k]? = some x) (h : p x = true) : l.any p = true := List.any_eq_true.2 ⟨x, List.mem_of_getElem? hx, h⟩

set_option maxHeartbeats 400000 in
theorem long_any (s : Str) (w : World) (hs : s.length ≤ maxLen) : Calls Tryz.prog 113 #[.string (S s)] w (RetV w (.bool (longS s))) := by
  have hsz := S_size s
  have hlm : s.length ≤ 9223372036854775807 := by unfold maxLen at hs; omega
  clear hs
  go_enter Tryz.func113, Tryz.ntmps113
  go_wp2_with fail
  go_ret
  refine ⟨ret_bool ?_, Below.refl _ _⟩
  unfold longS
  rw [decide_eq_decide]
  omega

set_option maxHeartbeats 400000 in
theorem indexLong_any (A : Option Addr) (c : Nat) (ss : List Str) (w : World) (hl : Lies w A ss) (hn : ss.length ≤ maxLen) (ht : ∀ s ∈ ss, s.length ≤ maxLen) :
    Calls Tryz.prog 130 #[.slice A ss.length c, .func (.func 113) #[] #[]] w (RetIx w (ss.any longS)) := by
  have hlm : ss.length ≤ 9223372036854775807 := by unfold maxLen at hn; omega
  clear hn
  have HT := Lib.hid ht
  clear ht
  go_enter Tryz.func130, Tryz.ntmps130
  go_wp2_with fail
  go_loopw [8] (fun iv wr => ∃ k : Nat, k ≤ ss.length ∧ iv = .int .i64 k ∧ Hid ((ss.take k).any longS = false) ∧ Below w.heap.size w wr) (fun iv _ => ss.length - (intOf iv).toNat)
  case atStart => exact ⟨0, Nat.zero_le _, rfl, by simp [Hid], Below.refl _ _⟩
  case round =>
    obtain ⟨k, hk, rfl, h0, hbw⟩ := hrel
    by_cases hlt : k < ss.length
    · obtain ⟨b, off, rfl, hb, hc⟩ := (hl.below hbw).get hlt
      obtain ⟨x, hx⟩ : ∃ x, ss[k]? = some x := ⟨_, List.getElem?_eq_getElem hlt⟩
      have hc0 := hc k x hx
      have HX := Lib.hid hx
      clear hx hc hl
      obtain ⟨q, hq⟩ : ∃ q, longS x = q := ⟨_, rfl⟩
      have HQ := Lib.hid hq
      clear hq
      go_wp2_with fail
      refine (long_any x wr (HT.out x (List.mem_of_getElem? HX.out))).mono ?_
      rintro e w' ⟨rfl, hb2⟩
      have hb3 : Below w.heap.size w w' := hbw.trans (hb2.mono hbw.size)
      rw [HQ.out]
      cases q with
      | true =>
        go_wp2_with fail
        go_ret
        exact ⟨_, rfl, (by rw [any_yes HX.out HQ.out]; exact decide_eq_true (by omega)), hb3⟩
      | false =>
        go_wp2_with fail
        go_roundw
        case rel => exact ⟨k + 1, by omega, by go_num, any_succ h0.out HX.out HQ.out, hb3⟩
        case measure => simp [intOf]; omega
    · go_wp2_with fail
      go_ret
      exact ⟨_, rfl, (by rw [any_end h0.out (by omega)]; rfl), hbw⟩

set_option maxHeartbeats 400000 in
theorem containsLong_any (A : Option Addr) (c : Nat) (ss : List Str) (w : World) (hl : Lies w A ss) (hn : ss.length ≤ maxLen) (ht : ∀ s ∈ ss, s.length ≤ maxLen) :
    Calls Tryz.prog 112 #[.slice A ss.length c, .func (.func 113) #[] #[]] w (RetV w (.bool (ss.any longS))) := by
  have HA := Lib.hid (indexLong_any A c ss w hl hn ht)
  clear hl hn ht
  go_enter Tryz.func112, Tryz.ntmps112
  go_wp2_with fail
  refine HA.out.mono ?_
  rintro e w' ⟨i, rfl, hi, hb⟩
  have HI := Lib.hid hi
  clear hi
  go_wp2_with fail
  go_ret
  exact ⟨ret_bool HI.out, hb⟩

/-- What a set's texts must be. -/
def textsS (ss : List Str) : Bool := decide (ss.length ≤ 40) && (decide (R1.Srt ss) && !ss.any longS)

set_option maxHeartbeats 400000 in
theorem texts_any (A : Option Addr) (c : Nat) (ss : List Str) (w : World) (hl : Lies w A ss) (hn : ss.length ≤ maxLen) (ht : ∀ s ∈ ss, s.length ≤ maxLen) :
    Calls Tryz.prog 84 #[.slice A ss.length c] w (RetV w (.bool (textsS ss))) := by
  have HL := Lib.hid hl
  have HN := Lib.hid hn
  have HT := Lib.hid ht
  have hlm : ss.length ≤ 9223372036854775807 := by unfold maxLen at hn; omega
  clear hl hn ht
  by_cases h40 : ss.length ≤ 40
  · obtain ⟨q, hq⟩ : ∃ q, decide (R1.Srt ss) = q := ⟨_, rfl⟩
    have HQ := Lib.hid hq
    have hr : textsS ss = (q && !ss.any longS) := by unfold textsS; rw [decide_eq_true h40, hq]; rfl
    rw [hr]
    clear hq hr
    have h41 : (ss.length : Int) ≤ 40 := by omega
    go_enter Tryz.func84, Tryz.ntmps84
    go_wp2_with fail
    refine (R1.is_any A c ss w HL.out HN.out).mono ?_
    rintro e w' ⟨rfl, n, rfl⟩
    rw [HQ.out]
    cases q with
    | true =>
      go_wp2_with fail
      refine (containsLong_any A c ss _ (HL.out.drewN n) HN.out HT.out).mono ?_
      rintro e w' ⟨rfl, hb⟩
      go_wp2_with fail
      go_ret
      exact ⟨rfl, (below_drewN (Below.refl _ _) n).trans hb⟩
    | false =>
      go_wp2_with fail
      go_ret
      exact ⟨rfl, below_drewN (Below.refl _ _) n⟩
  · have hr : textsS ss = false := by unfold textsS; rw [decide_eq_false h40]; rfl
    rw [hr]
    have h41 : ¬ (ss.length : Int) ≤ 40 := by omega
    clear h40 hr
    go_enter Tryz.func84, Tryz.ntmps84
    go_wp2_with fail
    go_ret
    exact ⟨rfl, Below.refl _ _⟩
end Go.Proofs.YtleejffjnknohaaGreat.V4
