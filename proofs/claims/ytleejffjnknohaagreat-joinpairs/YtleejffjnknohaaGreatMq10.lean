/- What value.every does, with each of the four questions, given what the question answers. No condition but that what is gone through lies in memory. -/
import Derived.Test.YtleejffjnknohaaGreatMq09
namespace Go.Proofs.YtleejffjnknohaaGreat.V4
open Go.RowKit Go.Shelf
open S2 (Sc LiesP allocB results_cell1)
open C3 (belAl)

attribute [local go_sem] Oper.semAt_some

def InT (w : World) (x : Sc × Vl) : Prop := x.1.In w.heap.size w ∧ x.2.In w
def InK (w : World) (x : Vl × Vl) : Prop := x.1.In w ∧ x.2.In w
def InC (w : World) (x : Ck) : Prop := x.Inp (fun b => b < w.heap.size) w
theorem InT.later {w w' : World} {x : Sc × Vl} (h : InT w x) (hb : Below w.heap.size w w') : InT w' x := ⟨h.1.later hb, h.2.later hb⟩
theorem InK.later {w w' : World} {x : Vl × Vl} (h : InK w x) (hb : Below w.heap.size w w') : InK w' x := ⟨h.1.later hb, h.2.later hb⟩
theorem InC.later {w w' : World} {x : Ck} (h : InC w x) (hb : Below w.heap.size w w') : InC w' x := (Ck.Inp.keep h fun b hlt => hb.block b hlt).mono fun _ hlt => Nat.lt_of_lt_of_le hlt hb.size

theorem all_take_succ {α : Type} {p : α → Bool} {zs : List α} {k : Nat} {x : α} (hx : zs[k]? = some x) : (zs.take (k + 1)).all p = ((zs.take k).all p && p x) := by
  obtain ⟨hk, he⟩ := List.getElem?_eq_some_iff.1 hx
  rw [List.take_succ_eq_append_getElem hk, he, List.all_append]
  simp
theorem all_false {α : Type} {p : α → Bool} {zs : List α} {k : Nat} {x : α} (hx : zs[k]? = some x) (hp : p x = false) : zs.all p = false := by
  refine Bool.eq_false_iff.2 fun h => ?_
  have := List.all_eq_true.1 h x (List.mem_of_getElem? hx)
  rw [hp] at this
  cases this

set_option maxRecDepth 100000 in
set_option maxHeartbeats 1000000 in
theorem every_right (p : Sc × Vl → Bool) (zs : List (Sc × Vl)) (hf : ∀ x ∈ zs, ∀ W, InT W x → Calls Tryz.prog 41 #[valT x] W (RetV W (.bool (p x)))) (ok : Sc × Vl → Prop) (hok : ∀ x ∈ zs, p x = true → ok x) (g : Nat) (lb : Array Value) (eg : Enters Tryz.prog g) (w : World)
    (hseq : ∀ D w2, Below w.heap.size w w2 → w.heap.size ≤ D → D < w2.heap.size → SeqO Tryz.prog g lb encT D ok zs w2) (hmem : ∀ x ∈ zs, InT w x) :
    Calls Tryz.prog 38 #[.func (.func g) #[] lb, .func (.func 41) #[] #[]] w (RetV w (.bool (zs.all p))) := by
  have HF := Lib.hid hf
  have HOK := Lib.hid hok
  have HE := Lib.hid eg
  have HS := Lib.hid hseq
  have HM := Lib.hid hmem
  clear hf hok eg hseq hmem
  refine (callsIn_wide (n := 6)).1 (callsIn_of_wp_marks Tryz.func38 rfl trivial ?_ rfl)
  simp only [Tryz.ntmps38, List.size_toArray, List.length_cons, List.length_nil, Nat.reduceAdd, Nat.reduceSub, Array.replicate_succ, Array.replicate_zero, List.push_toArray, List.append_toArray, List.nil_append, List.cons_append]
  gi_wp2_with fail
  obtain ⟨V, hV⟩ : ∃ V, (w.alloc (.cells #[.func (.func 41) #[] #[]] 89)).alloc (.cells #[.bool false] 4) = V := ⟨_, rfl⟩
  have hB0 : Below w.heap.size w V := by rw [← hV]; exact belAl (belAl (Below.refl _ _))
  have hsz : V.heap.size = w.heap.size + 2 := by rw [← hV]; simp
  have bR : Boxed V (w.heap.size + 1) 4 (.bool false) := by
    have := Boxed.new (w.alloc (.cells #[.func (.func 41) #[] #[]] 89)) 4 (.bool false)
    rw [World.size_alloc, hV] at this
    exact this
  have cI : V.cell? ⟨w.heap.size, 0, none⟩ = some (.func (.func 41) #[] #[]) := by
    rw [← hV]
    exact ((belAl1 (Below.refl (w.heap.size + 1) (w.alloc (.cells #[.func (.func 41) #[] #[]] 89))) (by simp)).cell (p := ⟨w.heap.size, 0, none⟩) (by simp)).trans (alloc_cells 0 _ rfl)
  rw [hV]
  clear hV
  refine range_own rfl HE.out (HS.out (w.heap.size + 1) V hB0 (by omega) (by omega)) (fun _ => rfl)
    (fun k X => (Boxed X (w.heap.size + 1) 4 (.bool false) ∧ Below w.heap.size w X) ∧ X.cell? ⟨w.heap.size, 0, none⟩ = some (.func (.func 41) #[] #[]) ∧ (zs.take k).all p = true)
    (fun c _ X => (Boxed X (w.heap.size + 1) 4 (.bool false) ∧ Below w.heap.size w X) ∧ c = .ret ∧ zs.all p = false)
    (fun k X Y ⟨⟨h1, h2⟩, h3, h4⟩ hb => ⟨⟨(hb.block _ (by omega)).trans h1, h2.trans (hb.mono (by omega))⟩, (hb.cell (p := ⟨w.heap.size, 0, none⟩) (by simp only; omega)).trans h3, h4⟩)
    (fun c k X Y ⟨⟨h1, h2⟩, h3⟩ hb => ⟨⟨(hb.block _ (by omega)).trans h1, h2.trans (hb.mono (by omega))⟩, h3⟩)
    ⟨⟨bR, hB0⟩, cI, rfl⟩
    (fun y a' X => ∃ bp, a' = { tmps := #[.func (.func g) #[] lb, .func (.func 41) #[] #[], undef, .pointer (some ⟨w.heap.size, 0, none⟩), .pointer (some ⟨w.heap.size + 1, 0, none⟩), .pointer (some ⟨bp, 0, none⟩), .func (.func g) #[] lb, valT y, undef, undef, undef, undef], defers := [] } ∧ ∀ i v, (cellsT y)[i]? = some v → X.cell? ⟨bp, i, none⟩ = some v)
    ?ax ?assign ?body ?done ?stop
  case ax =>
    rintro y a' _ X Y row ⟨bp, h1, h2⟩ hg hr
    exact ⟨bp, h1, fun i v h => cell_kept (h2 i v h) hg (fun r e => (hr r e).2)⟩
  case assign =>
    intro l2 k y X K _ _ hK
    obtain ⟨⟨yk, yA, yc, yl⟩, yn, ym, ysA, ysc, yss, ycA, ycc, ycs, yvA, yvc, yvs⟩ := y
    unfold encT
    simp only [valT, cellsT, Sc.k, Sc.v1, Vl.n, Vl.m, Vl.s1, Vl.c1, Vl.v1]
    gi_wp2
    exact hK _ _ (allocB _ _) ⟨X.heap.size, rfl, fun i v h => alloc_cells i v h⟩
  case body =>
    rintro l2 k y a' X hXs hx ⟨⟨h1, h2⟩, h3, h4⟩ ⟨bp, rfl, hc⟩
    have HX := Lib.hid hx
    have hb := h2
    have hcl := h1.cell
    have hcf := h1.frozen
    have HR := Lib.hid (HF.out y (List.mem_of_getElem? hx) X ((HM.out y (List.mem_of_getElem? hx)).later h2))
    obtain ⟨q, hq⟩ : ∃ q, p y = q := ⟨_, rfl⟩
    have HQ := Lib.hid hq
    have HP := Lib.hid h4
    rw [hq] at HR
    clear hx hq h4
    obtain ⟨⟨yk, yA, yc, yl⟩, yn, ym, ysA, ysc, yss, ycA, ycc, ycs, yvA, yvc, yvs⟩ := y
    have e0 := hc 0 _ rfl
    have e1 := hc 1 _ rfl
    have e2 := hc 2 _ rfl
    have e3 := hc 3 _ rfl
    have e4 := hc 4 _ rfl
    have e5 := hc 5 _ rfl
    have e6 := hc 6 _ rfl
    simp only [valT, cellsT, Sc.k, Sc.v1, Vl.n, Vl.m, Vl.s1, Vl.c1, Vl.v1] at e0 e1 e2 e3 e4 e5 e6 HR ⊢
    clear hc
    gi_wp2_with fail
    refine ⟨trivial, rfl, (CallsIn.inRound l2 (callsIn_wide.2 HR.out)).mono ?_⟩
    clear HR e0 e1 e2 e3 e4 e5 e6
    rintro e X5 ⟨rfl, hb5⟩
    have g1 : Boxed X5 (w.heap.size + 1) 4 (.bool false) := (hb5.block _ (by omega)).trans h1
    have g3 := (hb5.cell (p := ⟨w.heap.size, 0, none⟩) (by simp only; omega)).trans h3
    have hB5 : Below w.heap.size w X5 := h2.trans (hb5.mono h2.size)
    cases q with
    | true =>
      gi_wp2_with fail
      exact ⟨KN.of_below hb5, ⟨⟨g1, hB5⟩, g3, by rw [all_take_succ HX.out, HP.out, HQ.out]; rfl⟩, HOK.out _ (List.mem_of_getElem? HX.out) HQ.out⟩
    | false =>
      have hcl5 := g1.cell
      have hcf5 := g1.frozen
      gi_wp2_with fail
      exact ⟨(KF.of_below hb5).trans (KF.set (by omega) _), ⟨g1.set _, hB5.setCell (by first | omega | (simp; omega) | simp) _⟩, rfl, all_false HX.out HQ.out⟩
  case done =>
    rintro E X hE ⟨⟨hR, hB⟩, -, hp⟩ hK
    have hcl := hR.cell
    have hcf := hR.frozen
    rw [List.take_length] at hp
    have HP := Lib.hid hp
    clear hp
    gi_wp2
    have hne : w.heap.size + 1 ≠ E := by omega
    have hK2 : (X.setCell ⟨w.heap.size + 1, 0, none⟩ (.bool true)).heap[E]? = some (.deferred (some [])) := (Below.heap_setCell _ _ _ _ (Ne.symm hne)).trans hK
    refine ⟨by simp, .inl ⟨_, _, rfl, run_takeDeferred hK2, ?_⟩⟩
    refine ⟨_, results_cell1 rfl rfl _ _ (w.heap.size + 1) (.bool true) rfl ((World.cell?_of_block (World.putObj_heap_other hne)).trans (hR.set (.bool true)).cell), ?_⟩
    rw [HP.out]
    exact ⟨rfl, (hB.setCell (by first | omega | (simp; omega) | simp) _).trans ⟨rfl, rfl, rfl, by simp, fun q hq => World.putObj_heap_other (by omega)⟩⟩
  case stop =>
    rintro E c k X hE hk ⟨⟨hR, hB⟩, rfl, hp⟩ hK
    have hcl := hR.cell
    have HP := Lib.hid hp
    clear hp
    gi_wp2
    have hne : w.heap.size + 1 ≠ E := by omega
    refine ⟨by simp, .inl ⟨_, _, rfl, run_takeDeferred hK, ?_⟩⟩
    refine ⟨_, results_cell1 rfl rfl _ _ (w.heap.size + 1) (.bool false) rfl ((World.cell?_of_block (World.putObj_heap_other hne)).trans hcl), ?_⟩
    rw [HP.out]
    exact ⟨rfl, hB.trans ⟨rfl, rfl, rfl, by simp, fun q hq => World.putObj_heap_other (by omega)⟩⟩

set_option maxRecDepth 100000 in
set_option maxHeartbeats 1000000 in
theorem every_hollow (p : Sc × Vl → Bool) (zs : List (Sc × Vl)) (hf : ∀ x ∈ zs, ∀ W, InT W x → Calls Tryz.prog 131 #[valT x] W (RetV W (.bool (p x)))) (ok : Sc × Vl → Prop) (hok : ∀ x ∈ zs, p x = true → ok x) (g : Nat) (lb : Array Value) (eg : Enters Tryz.prog g) (w : World)
    (hseq : ∀ D w2, Below w.heap.size w w2 → w.heap.size ≤ D → D < w2.heap.size → SeqO Tryz.prog g lb encT D ok zs w2) (hmem : ∀ x ∈ zs, InT w x) :
    Calls Tryz.prog 38 #[.func (.func g) #[] lb, .func (.func 131) #[] #[]] w (RetV w (.bool (zs.all p))) := by
  have HF := Lib.hid hf
  have HOK := Lib.hid hok
  have HE := Lib.hid eg
  have HS := Lib.hid hseq
  have HM := Lib.hid hmem
  clear hf hok eg hseq hmem
  refine (callsIn_wide (n := 6)).1 (callsIn_of_wp_marks Tryz.func38 rfl trivial ?_ rfl)
  simp only [Tryz.ntmps38, List.size_toArray, List.length_cons, List.length_nil, Nat.reduceAdd, Nat.reduceSub, Array.replicate_succ, Array.replicate_zero, List.push_toArray, List.append_toArray, List.nil_append, List.cons_append]
  gi_wp2_with fail
  obtain ⟨V, hV⟩ : ∃ V, (w.alloc (.cells #[.func (.func 131) #[] #[]] 89)).alloc (.cells #[.bool false] 4) = V := ⟨_, rfl⟩
  have hB0 : Below w.heap.size w V := by rw [← hV]; exact belAl (belAl (Below.refl _ _))
  have hsz : V.heap.size = w.heap.size + 2 := by rw [← hV]; simp
  have bR : Boxed V (w.heap.size + 1) 4 (.bool false) := by
    have := Boxed.new (w.alloc (.cells #[.func (.func 131) #[] #[]] 89)) 4 (.bool false)
    rw [World.size_alloc, hV] at this
    exact this
  have cI : V.cell? ⟨w.heap.size, 0, none⟩ = some (.func (.func 131) #[] #[]) := by
    rw [← hV]
    exact ((belAl1 (Below.refl (w.heap.size + 1) (w.alloc (.cells #[.func (.func 131) #[] #[]] 89))) (by simp)).cell (p := ⟨w.heap.size, 0, none⟩) (by simp)).trans (alloc_cells 0 _ rfl)
  rw [hV]
  clear hV
  refine range_own rfl HE.out (HS.out (w.heap.size + 1) V hB0 (by omega) (by omega)) (fun _ => rfl)
    (fun k X => (Boxed X (w.heap.size + 1) 4 (.bool false) ∧ Below w.heap.size w X) ∧ X.cell? ⟨w.heap.size, 0, none⟩ = some (.func (.func 131) #[] #[]) ∧ (zs.take k).all p = true)
    (fun c _ X => (Boxed X (w.heap.size + 1) 4 (.bool false) ∧ Below w.heap.size w X) ∧ c = .ret ∧ zs.all p = false)
    (fun k X Y ⟨⟨h1, h2⟩, h3, h4⟩ hb => ⟨⟨(hb.block _ (by omega)).trans h1, h2.trans (hb.mono (by omega))⟩, (hb.cell (p := ⟨w.heap.size, 0, none⟩) (by simp only; omega)).trans h3, h4⟩)
    (fun c k X Y ⟨⟨h1, h2⟩, h3⟩ hb => ⟨⟨(hb.block _ (by omega)).trans h1, h2.trans (hb.mono (by omega))⟩, h3⟩)
    ⟨⟨bR, hB0⟩, cI, rfl⟩
    (fun y a' X => ∃ bp, a' = { tmps := #[.func (.func g) #[] lb, .func (.func 131) #[] #[], undef, .pointer (some ⟨w.heap.size, 0, none⟩), .pointer (some ⟨w.heap.size + 1, 0, none⟩), .pointer (some ⟨bp, 0, none⟩), .func (.func g) #[] lb, valT y, undef, undef, undef, undef], defers := [] } ∧ ∀ i v, (cellsT y)[i]? = some v → X.cell? ⟨bp, i, none⟩ = some v)
    ?ax ?assign ?body ?done ?stop
  case ax =>
    rintro y a' _ X Y row ⟨bp, h1, h2⟩ hg hr
    exact ⟨bp, h1, fun i v h => cell_kept (h2 i v h) hg (fun r e => (hr r e).2)⟩
  case assign =>
    intro l2 k y X K _ _ hK
    obtain ⟨⟨yk, yA, yc, yl⟩, yn, ym, ysA, ysc, yss, ycA, ycc, ycs, yvA, yvc, yvs⟩ := y
    unfold encT
    simp only [valT, cellsT, Sc.k, Sc.v1, Vl.n, Vl.m, Vl.s1, Vl.c1, Vl.v1]
    gi_wp2
    exact hK _ _ (allocB _ _) ⟨X.heap.size, rfl, fun i v h => alloc_cells i v h⟩
  case body =>
    rintro l2 k y a' X hXs hx ⟨⟨h1, h2⟩, h3, h4⟩ ⟨bp, rfl, hc⟩
    have HX := Lib.hid hx
    have hb := h2
    have hcl := h1.cell
    have hcf := h1.frozen
    have HR := Lib.hid (HF.out y (List.mem_of_getElem? hx) X ((HM.out y (List.mem_of_getElem? hx)).later h2))
    obtain ⟨q, hq⟩ : ∃ q, p y = q := ⟨_, rfl⟩
    have HQ := Lib.hid hq
    have HP := Lib.hid h4
    rw [hq] at HR
    clear hx hq h4
    obtain ⟨⟨yk, yA, yc, yl⟩, yn, ym, ysA, ysc, yss, ycA, ycc, ycs, yvA, yvc, yvs⟩ := y
    have e0 := hc 0 _ rfl
    have e1 := hc 1 _ rfl
    have e2 := hc 2 _ rfl
    have e3 := hc 3 _ rfl
    have e4 := hc 4 _ rfl
    have e5 := hc 5 _ rfl
    have e6 := hc 6 _ rfl
    simp only [valT, cellsT, Sc.k, Sc.v1, Vl.n, Vl.m, Vl.s1, Vl.c1, Vl.v1] at e0 e1 e2 e3 e4 e5 e6 HR ⊢
    clear hc
    gi_wp2_with fail
    refine ⟨trivial, rfl, (CallsIn.inRound l2 (callsIn_wide.2 HR.out)).mono ?_⟩
    clear HR e0 e1 e2 e3 e4 e5 e6
    rintro e X5 ⟨rfl, hb5⟩
    have g1 : Boxed X5 (w.heap.size + 1) 4 (.bool false) := (hb5.block _ (by omega)).trans h1
    have g3 := (hb5.cell (p := ⟨w.heap.size, 0, none⟩) (by simp only; omega)).trans h3
    have hB5 : Below w.heap.size w X5 := h2.trans (hb5.mono h2.size)
    cases q with
    | true =>
      gi_wp2_with fail
      exact ⟨KN.of_below hb5, ⟨⟨g1, hB5⟩, g3, by rw [all_take_succ HX.out, HP.out, HQ.out]; rfl⟩, HOK.out _ (List.mem_of_getElem? HX.out) HQ.out⟩
    | false =>
      have hcl5 := g1.cell
      have hcf5 := g1.frozen
      gi_wp2_with fail
      exact ⟨(KF.of_below hb5).trans (KF.set (by omega) _), ⟨g1.set _, hB5.setCell (by first | omega | (simp; omega) | simp) _⟩, rfl, all_false HX.out HQ.out⟩
  case done =>
    rintro E X hE ⟨⟨hR, hB⟩, -, hp⟩ hK
    have hcl := hR.cell
    have hcf := hR.frozen
    rw [List.take_length] at hp
    have HP := Lib.hid hp
    clear hp
    gi_wp2
    have hne : w.heap.size + 1 ≠ E := by omega
    have hK2 : (X.setCell ⟨w.heap.size + 1, 0, none⟩ (.bool true)).heap[E]? = some (.deferred (some [])) := (Below.heap_setCell _ _ _ _ (Ne.symm hne)).trans hK
    refine ⟨by simp, .inl ⟨_, _, rfl, run_takeDeferred hK2, ?_⟩⟩
    refine ⟨_, results_cell1 rfl rfl _ _ (w.heap.size + 1) (.bool true) rfl ((World.cell?_of_block (World.putObj_heap_other hne)).trans (hR.set (.bool true)).cell), ?_⟩
    rw [HP.out]
    exact ⟨rfl, (hB.setCell (by first | omega | (simp; omega) | simp) _).trans ⟨rfl, rfl, rfl, by simp, fun q hq => World.putObj_heap_other (by omega)⟩⟩
  case stop =>
    rintro E c k X hE hk ⟨⟨hR, hB⟩, rfl, hp⟩ hK
    have hcl := hR.cell
    have HP := Lib.hid hp
    clear hp
    gi_wp2
    have hne : w.heap.size + 1 ≠ E := by omega
    refine ⟨by simp, .inl ⟨_, _, rfl, run_takeDeferred hK, ?_⟩⟩
    refine ⟨_, results_cell1 rfl rfl _ _ (w.heap.size + 1) (.bool false) rfl ((World.cell?_of_block (World.putObj_heap_other hne)).trans hcl), ?_⟩
    rw [HP.out]
    exact ⟨rfl, hB.trans ⟨rfl, rfl, rfl, by simp, fun q hq => World.putObj_heap_other (by omega)⟩⟩

set_option maxRecDepth 100000 in
set_option maxHeartbeats 1000000 in
theorem every_clock (p : Ck → Bool) (zs : List (Ck)) (hf : ∀ x ∈ zs, ∀ W, InC W x → Calls Tryz.prog 116 #[Ck.v x] W (RetV W (.bool (p x)))) (ok : Ck → Prop) (hok : ∀ x ∈ zs, p x = true → ok x) (g : Nat) (lb : Array Value) (eg : Enters Tryz.prog g) (w : World)
    (hseq : ∀ D w2, Below w.heap.size w w2 → w.heap.size ≤ D → D < w2.heap.size → SeqO Tryz.prog g lb encC D ok zs w2) (hmem : ∀ x ∈ zs, InC w x) :
    Calls Tryz.prog 117 #[.func (.func g) #[] lb, .func (.func 116) #[] #[]] w (RetV w (.bool (zs.all p))) := by
  have HF := Lib.hid hf
  have HOK := Lib.hid hok
  have HE := Lib.hid eg
  have HS := Lib.hid hseq
  have HM := Lib.hid hmem
  clear hf hok eg hseq hmem
  refine (callsIn_wide (n := 6)).1 (callsIn_of_wp_marks Tryz.func117 rfl trivial ?_ rfl)
  simp only [Tryz.ntmps117, List.size_toArray, List.length_cons, List.length_nil, Nat.reduceAdd, Nat.reduceSub, Array.replicate_succ, Array.replicate_zero, List.push_toArray, List.append_toArray, List.nil_append, List.cons_append]
  gi_wp2_with fail
  obtain ⟨V, hV⟩ : ∃ V, (w.alloc (.cells #[.func (.func 116) #[] #[]] 96)).alloc (.cells #[.bool false] 4) = V := ⟨_, rfl⟩
  have hB0 : Below w.heap.size w V := by rw [← hV]; exact belAl (belAl (Below.refl _ _))
  have hsz : V.heap.size = w.heap.size + 2 := by rw [← hV]; simp
  have bR : Boxed V (w.heap.size + 1) 4 (.bool false) := by
    have := Boxed.new (w.alloc (.cells #[.func (.func 116) #[] #[]] 96)) 4 (.bool false)
    rw [World.size_alloc, hV] at this
    exact this
  have cI : V.cell? ⟨w.heap.size, 0, none⟩ = some (.func (.func 116) #[] #[]) := by
    rw [← hV]
    exact ((belAl1 (Below.refl (w.heap.size + 1) (w.alloc (.cells #[.func (.func 116) #[] #[]] 96))) (by simp)).cell (p := ⟨w.heap.size, 0, none⟩) (by simp)).trans (alloc_cells 0 _ rfl)
  rw [hV]
  clear hV
  refine range_own rfl HE.out (HS.out (w.heap.size + 1) V hB0 (by omega) (by omega)) (fun _ => rfl)
    (fun k X => (Boxed X (w.heap.size + 1) 4 (.bool false) ∧ Below w.heap.size w X) ∧ X.cell? ⟨w.heap.size, 0, none⟩ = some (.func (.func 116) #[] #[]) ∧ (zs.take k).all p = true)
    (fun c _ X => (Boxed X (w.heap.size + 1) 4 (.bool false) ∧ Below w.heap.size w X) ∧ c = .ret ∧ zs.all p = false)
    (fun k X Y ⟨⟨h1, h2⟩, h3, h4⟩ hb => ⟨⟨(hb.block _ (by omega)).trans h1, h2.trans (hb.mono (by omega))⟩, (hb.cell (p := ⟨w.heap.size, 0, none⟩) (by simp only; omega)).trans h3, h4⟩)
    (fun c k X Y ⟨⟨h1, h2⟩, h3⟩ hb => ⟨⟨(hb.block _ (by omega)).trans h1, h2.trans (hb.mono (by omega))⟩, h3⟩)
    ⟨⟨bR, hB0⟩, cI, rfl⟩
    (fun y a' _ => a' = { tmps := #[.func (.func g) #[] lb, .func (.func 116) #[] #[], undef, .pointer (some ⟨w.heap.size, 0, none⟩), .pointer (some ⟨w.heap.size + 1, 0, none⟩), Ck.v y, .func (.func g) #[] lb, Ck.v y, undef, undef, undef, undef], defers := [] })
    ?ax ?assign ?body ?done ?stop
  case ax =>
    rintro y a' _ X Y row h1 hg hr
    exact h1
  case assign =>
    intro l2 k y X K _ _ hK
    unfold encC
    gi_wp2
    exact hK _ _ (Below.refl _ _) rfl
  case body =>
    rintro l2 k y a' X hXs hx ⟨⟨h1, h2⟩, h3, h4⟩ rfl
    have HX := Lib.hid hx
    have hb := h2
    have hcl := h1.cell
    have hcf := h1.frozen
    have HR := Lib.hid (HF.out y (List.mem_of_getElem? hx) X ((HM.out y (List.mem_of_getElem? hx)).later h2))
    obtain ⟨q, hq⟩ : ∃ q, p y = q := ⟨_, rfl⟩
    have HQ := Lib.hid hq
    have HP := Lib.hid h4
    rw [hq] at HR
    clear hx hq h4

    gi_wp2_with fail
    refine ⟨trivial, rfl, (CallsIn.inRound l2 (callsIn_wide.2 HR.out)).mono ?_⟩
    clear HR
    rintro e X5 ⟨rfl, hb5⟩
    have g1 : Boxed X5 (w.heap.size + 1) 4 (.bool false) := (hb5.block _ (by omega)).trans h1
    have g3 := (hb5.cell (p := ⟨w.heap.size, 0, none⟩) (by simp only; omega)).trans h3
    have hB5 : Below w.heap.size w X5 := h2.trans (hb5.mono h2.size)
    cases q with
    | true =>
      gi_wp2_with fail
      exact ⟨KN.of_below hb5, ⟨⟨g1, hB5⟩, g3, by rw [all_take_succ HX.out, HP.out, HQ.out]; rfl⟩, HOK.out _ (List.mem_of_getElem? HX.out) HQ.out⟩
    | false =>
      have hcl5 := g1.cell
      have hcf5 := g1.frozen
      gi_wp2_with fail
      exact ⟨(KF.of_below hb5).trans (KF.set (by omega) _), ⟨g1.set _, hB5.setCell (by first | omega | (simp; omega) | simp) _⟩, rfl, all_false HX.out HQ.out⟩
  case done =>
    rintro E X hE ⟨⟨hR, hB⟩, -, hp⟩ hK
    have hcl := hR.cell
    have hcf := hR.frozen
    rw [List.take_length] at hp
    have HP := Lib.hid hp
    clear hp
    gi_wp2
    have hne : w.heap.size + 1 ≠ E := by omega
    have hK2 : (X.setCell ⟨w.heap.size + 1, 0, none⟩ (.bool true)).heap[E]? = some (.deferred (some [])) := (Below.heap_setCell _ _ _ _ (Ne.symm hne)).trans hK
    refine ⟨by simp, .inl ⟨_, _, rfl, run_takeDeferred hK2, ?_⟩⟩
    refine ⟨_, results_cell1 rfl rfl _ _ (w.heap.size + 1) (.bool true) rfl ((World.cell?_of_block (World.putObj_heap_other hne)).trans (hR.set (.bool true)).cell), ?_⟩
    rw [HP.out]
    exact ⟨rfl, (hB.setCell (by first | omega | (simp; omega) | simp) _).trans ⟨rfl, rfl, rfl, by simp, fun q hq => World.putObj_heap_other (by omega)⟩⟩
  case stop =>
    rintro E c k X hE hk ⟨⟨hR, hB⟩, rfl, hp⟩ hK
    have hcl := hR.cell
    have HP := Lib.hid hp
    clear hp
    gi_wp2
    have hne : w.heap.size + 1 ≠ E := by omega
    refine ⟨by simp, .inl ⟨_, _, rfl, run_takeDeferred hK, ?_⟩⟩
    refine ⟨_, results_cell1 rfl rfl _ _ (w.heap.size + 1) (.bool false) rfl ((World.cell?_of_block (World.putObj_heap_other hne)).trans hcl), ?_⟩
    rw [HP.out]
    exact ⟨rfl, hB.trans ⟨rfl, rfl, rfl, by simp, fun q hq => World.putObj_heap_other (by omega)⟩⟩
end Go.Proofs.YtleejffjnknohaaGreat.V4
