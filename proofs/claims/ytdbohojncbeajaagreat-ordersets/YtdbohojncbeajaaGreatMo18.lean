/- What slices.Clone of texts and join.later do. No condition but that what they take lies in memory. What clock.merged does. No condition but that the ticks lie in memory, at most 1000. What clock.Join and clock.Up do. No condition but that the ticks lie in memory, at most 1000 (Up: and rise). What join.joinClocks does. No condition but that what it takes lies in memory, one clock at most each, none too long. What value.twos gives: any two of a row of clocks. No condition but that they lie in memory. -/
import Derived.Test.YtdbohojncbeajaaGreatMo17
import Derived.Test.YtdbohojncbeajaaGreatMo09
import Derived.Test.YtdbohojncbeajaaGreatMo16
import Derived.Test.YtdbohojncbeajaaGreatMo10
namespace Go.Proofs.YtdbohojncbeajaaGreat.J5
open Go.RowKit Go.Shelf
open C3 (Tk In belAl allocB)
open V4 (Va Vl Ck LiesC RetWN val_mk er_mk)

theorem map_string (ss : List Str) : ((ss.map S).take ss.length).map Value.string = V4.cellsS ss := by
  rw [List.take_of_length_le (by simp), List.map_map]; rfl

/-- A row of texts of the call's own. -/
theorem cloneS_any (A : Option Addr) (c : Nat) (ss : List Str) (w : World) (hl : Lies w A ss) (hb : ss.length * 16 ≤ 140737488351232) :
    Calls Tryz.prog 66 #[.slice A ss.length c] w fun e w' => ∃ A' c', e = .returned (.slice A' ss.length c') ∧ LiesC (fun b => w.heap.size ≤ b ∧ b < w'.heap.size) w' A' (V4.cellsS ss) ∧ ss.length ≤ c' ∧ c' ≤ maxLen ∧ Below w.heap.size w w' := by
  cases A with
  | none =>
    have h0 : ss = [] := by
      rcases hl with h | ⟨_, _, h, _⟩
      · exact h
      · cases h
    subst h0
    refine (Go.Proofs.Tryz.slices_Clone_string_nil 0 c w).mono ?_
    rintro e w' ⟨rfl, rfl⟩
    exact ⟨none, 0, rfl, .inl rfl, Nat.le_refl _, Nat.zero_le _, Below.refl _ _⟩
  | some a =>
    by_cases h0 : ss = []
    · subst h0
      refine (Go.Proofs.Tryz.slices_Clone_string_zero a c w).mono ?_
      rintro e w' ⟨v, rfl, hown, _, hbl⟩
      obtain ⟨A', c', rfl, _⟩ := row_form hown
      obtain ⟨h1, h2, h3⟩ := row_lies hown
      exact ⟨A', c', rfl, .inl rfl, h2, h3, hbl⟩
    · obtain ⟨b, off, e, hlt, hc⟩ : ∃ b off, some a = some (⟨b, off, none⟩ : Addr) ∧ b < w.heap.size ∧ ∀ i x, ss[i]? = some x → w.cell? ⟨b, off + i, none⟩ = some (.string (S x)) := by
        rcases hl with h | h
        · exact absurd h h0
        · exact h
      cases e
      refine (Go.Proofs.Tryz.slices_Clone_string b off ss.length c (ss.map S) w (by simp) (by omega) fun j hj => ?_).mono ?_
      · have hj' : j < ss.length := by simpa using hj
        rw [hc j _ (List.getElem?_eq_getElem hj')]
        congr 2
        rw [List.getD_eq_getElem?_getD, List.getElem?_map, List.getElem?_eq_getElem hj']
        rfl
      · rintro e w' ⟨v, rfl, hown, _, hbl⟩
        obtain ⟨A', c', rfl, _⟩ := row_form hown
        rw [map_string] at hown
        obtain ⟨h1, h2, h3⟩ := row_lies hown
        exact ⟨A', c', rfl, h1, h2, h3, hbl⟩

/-- Three boxes. -/
theorem blk3 {w V : World} {t0 t1 t2 : TypeId} {c0 c1 c2 : Array Value} (hV : ((w.alloc (.cells c0 t0)).alloc (.cells c1 t1)).alloc (.cells c2 t2) = V) :
    Blk V w.heap.size t0 c0 ∧ Blk V (w.heap.size + 1) t1 c1 ∧ Blk V (w.heap.size + 1 + 1) t2 c2 ∧ Below w.heap.size w V ∧ V.heap.size = w.heap.size + 3 := by
  refine ⟨?_, ?_, ?_, ?_, ?_⟩
  · rw [← hV]; exact ((Blk.new w _ _).below (allocB _ _)).below (allocB _ _)
  · rw [← hV]
    have := Blk.new (w.alloc (.cells c0 t0)) t1 c1
    rw [World.size_alloc] at this
    exact this.below (allocB _ _)
  · rw [← hV]
    have := Blk.new ((w.alloc (.cells c0 t0)).alloc (.cells c1 t1)) t2 c2
    rw [World.size_alloc, World.size_alloc] at this
    exact this
  · rw [← hV]; exact belAl (belAl (belAl (Below.refl _ _)))
  · rw [← hV]; simp

theorem texts_in {P : Nat → Prop} {W : World} {A : Option Addr} {c : Nat} {ss : List Str} (n m : Int) (hn : 0 ≤ n ∧ n ≤ 18446744073709551615) (hm : 0 ≤ m ∧ m ≤ 18446744073709551615) (hl : LiesC P W A (V4.cellsS ss)) (h1 : ss.length ≤ c) (h2 : c ≤ maxLen) (h3 : ss.length * 16 ≤ 140737488351232) (h4 : ∀ s ∈ ss, s.length ≤ maxLen) :
    (Vl.mk n m A c ss none 0 [] none 0 []).Inp P W :=
  .mk _ _ _ _ _ _ _ _ _ _ _ hn hm hl ⟨h1, h2, h3⟩ h4 (.inl rfl) (by simp) (by simp) (.inl rfl) (by simp) (by simp)

set_option maxRecDepth 100000 in
set_option maxHeartbeats 2000000 in
theorem later_any (x y : Vl) (w : World) (hx : x.In w) (hy : y.In w) : Calls Tryz.prog 47 #[x.val, y.val] w (RetWN w (lastE x.er y.er)) := by
  obtain ⟨q, hq⟩ : ∃ q, writerI x.er y.er = q := ⟨_, rfl⟩
  have HW := Lib.hid (fun W h1 h2 => byWriter_any x y W h1 h2)
  rw [hq] at HW
  have HL : Hid (lastE x.er y.er = if q < 0 then .mk y.er.n y.er.m y.er.s [] [] else .mk x.er.n x.er.m x.er.s [] []) := by show lastE _ _ = _; unfold lastE; rw [hq]
  obtain ⟨res, hres⟩ : ∃ res, lastE x.er y.er = res := ⟨_, rfl⟩
  rw [hres] at HL
  rw [hres]
  clear hres hq
  obtain ⟨n, m, sA, sc, ss, cA, cc, cs, vA, vc, vs⟩ := x
  obtain ⟨n', m', sA', sc', ss', cA', cc', cs', vA', vc', vs'⟩ := y
  rw [er_mk, er_mk] at HL
  simp only [val_mk] at HW ⊢
  obtain ⟨V, hV⟩ : ∃ V, ((w.alloc (.cells #[.int .u64 n, .int .u64 m, .slice sA ss.length sc, .slice cA cs.length cc, .slice vA vs.length vc] 29)).alloc (.cells #[.int .u64 n', .int .u64 m', .slice sA' ss'.length sc', .slice cA' cs'.length cc', .slice vA' vs'.length vc'] 29)).alloc (.cells #[.int .u64 0, .int .u64 0, .slice none 0 0, .slice none 0 0, .slice none 0 0] 29) = V := ⟨_, rfl⟩
  obtain ⟨q0, q1, q2, hb0, hsz⟩ := blk3 hV
  have PX := Lib.hid hx.out
  have PY := Lib.hid hy.out
  have HWV := Lib.hid (HW.out V (hx.later hb0) (hy.later hb0))
  clear hx hy HW
  have a0 : V.cell? ⟨w.heap.size, 0, none⟩ = some (.int .u64 n) := blk_cell q0 0 _ rfl
  have a1 : V.cell? ⟨w.heap.size, 1, none⟩ = some (.int .u64 m) := blk_cell q0 1 _ rfl
  have a2 : V.cell? ⟨w.heap.size, 2, none⟩ = some (.slice sA ss.length sc) := blk_cell q0 2 _ rfl
  have a3 : V.cell? ⟨w.heap.size, 3, none⟩ = some (.slice cA cs.length cc) := blk_cell q0 3 _ rfl
  have a4 : V.cell? ⟨w.heap.size, 4, none⟩ = some (.slice vA vs.length vc) := blk_cell q0 4 _ rfl
  have b0 : V.cell? ⟨w.heap.size + 1, 0, none⟩ = some (.int .u64 n') := blk_cell q1 0 _ rfl
  have b1 : V.cell? ⟨w.heap.size + 1, 1, none⟩ = some (.int .u64 m') := blk_cell q1 1 _ rfl
  have b2 : V.cell? ⟨w.heap.size + 1, 2, none⟩ = some (.slice sA' ss'.length sc') := blk_cell q1 2 _ rfl
  have b3 : V.cell? ⟨w.heap.size + 1, 3, none⟩ = some (.slice cA' cs'.length cc') := blk_cell q1 3 _ rfl
  have b4 : V.cell? ⟨w.heap.size + 1, 4, none⟩ = some (.slice vA' vs'.length vc') := blk_cell q1 4 _ rfl
  go_enter Tryz.func47, Tryz.ntmps47
  go_wp2_with fail
  refine HWV.out.mono ?_
  rintro e W ⟨rfl, hb1⟩
  clear HWV hV a0 a1 a2 a3 a4 b0 b1 b2 b3 b4
  have hbW : Below w.heap.size w W := hb0.trans (hb1.mono (by omega))
  have hsW : w.heap.size + 3 ≤ W.heap.size := by have := hb1.size; omega
  replace q0 := q0.below hb1
  replace q1 := q1.below hb1
  replace q2 := q2.below hb1
  clear hb0 hb1 hsz
  by_cases hd : q < 0
  · have hk : decide (q < 0) = true := decide_eq_true hd
    have hr := HL.out
    rw [if_pos hd] at hr
    simp only [Va.n, Va.m, Va.s] at hr
    subst hr
    clear hd HL
    obtain ⟨Y, hY⟩ : ∃ Y, set5 W w.heap.size (.int .u64 n') (.int .u64 m') (.slice sA' ss'.length sc') (.slice cA' cs'.length cc') (.slice vA' vs'.length vc') = Y := ⟨_, rfl⟩
    have a0 : W.cell? ⟨w.heap.size, 0, none⟩ = some (.int .u64 n) := blk_cell q0 0 _ rfl
    have a1 : W.cell? ⟨w.heap.size, 1, none⟩ = some (.int .u64 m) := blk_cell q0 1 _ rfl
    have a2 : W.cell? ⟨w.heap.size, 2, none⟩ = some (.slice sA ss.length sc) := blk_cell q0 2 _ rfl
    have a3 : W.cell? ⟨w.heap.size, 3, none⟩ = some (.slice cA cs.length cc) := blk_cell q0 3 _ rfl
    have a4 : W.cell? ⟨w.heap.size, 4, none⟩ = some (.slice vA vs.length vc) := blk_cell q0 4 _ rfl
    have b0 : W.cell? ⟨w.heap.size + 1, 0, none⟩ = some (.int .u64 n') := blk_cell q1 0 _ rfl
    have b1 : W.cell? ⟨w.heap.size + 1, 1, none⟩ = some (.int .u64 m') := blk_cell q1 1 _ rfl
    have b2 : W.cell? ⟨w.heap.size + 1, 2, none⟩ = some (.slice sA' ss'.length sc') := blk_cell q1 2 _ rfl
    have b3 : W.cell? ⟨w.heap.size + 1, 3, none⟩ = some (.slice cA' cs'.length cc') := blk_cell q1 3 _ rfl
    have b4 : W.cell? ⟨w.heap.size + 1, 4, none⟩ = some (.slice vA' vs'.length vc') := blk_cell q1 4 _ rfl
    have f0 := blk_frozen q0 0
    have f1 := blk_frozen q0 1
    have f2 := blk_frozen q0 2
    have f3 := blk_frozen q0 3
    have f4 := blk_frozen q0 4
    have hbY : Below w.heap.size w Y := by rw [← hY]; exact set5_bel hbW (Nat.le_refl _)
    have hsY : Y.heap.size = W.heap.size := by rw [← hY]; exact set5_size
    have q2Y : Blk Y (w.heap.size + 1 + 1) 29 #[.int .u64 0, .int .u64 0, .slice none 0 0, .slice none 0 0, .slice none 0 0] := by rw [← hY]; exact (set5_low (by omega)).trans q2
    have q0Y := set5_blk (v0 := .int .u64 n') (v1 := .int .u64 m') (v2 := .slice sA' ss'.length sc') (v3 := .slice cA' cs'.length cc') (v4 := .slice vA' vs'.length vc') q0
    rw [hY] at q0Y
    have hs0 : w.heap.size < Y.heap.size := by omega
    have hs2 : w.heap.size + 1 + 1 < Y.heap.size := by omega
    go_wp2_with fail
    rw [show ((((W.setCell ⟨w.heap.size, 0, none⟩ (.int .u64 n')).setCell ⟨w.heap.size, 1, none⟩ (.int .u64 m')).setCell ⟨w.heap.size, 2, none⟩ (.slice sA' ss'.length sc')).setCell ⟨w.heap.size, 3, none⟩ (.slice cA' cs'.length cc')).setCell ⟨w.heap.size, 4, none⟩ (.slice vA' vs'.length vc') = Y from hY]
    clear hY a0 a1 a2 a3 a4 b0 b1 b2 b3 b4 f0 f1 f2 f3 f4 hbW hsW hsY
    replace q0 := q0Y
    replace q2 := q2Y
    clear q0Y q2Y
    have a0 : Y.cell? ⟨w.heap.size, 0, none⟩ = some (.int .u64 n') := blk_cell q0 0 _ rfl
    have a1 : Y.cell? ⟨w.heap.size, 1, none⟩ = some (.int .u64 m') := blk_cell q0 1 _ rfl
    have a2 : Y.cell? ⟨w.heap.size, 2, none⟩ = some (.slice sA' ss'.length sc') := blk_cell q0 2 _ rfl
    have HC := Lib.hid (fun U (hb : Below Y.heap.size Y U) => cloneS_any sA' sc' ss' U ((PY.out.sl.below hbY).below hb) PY.out.sb.2.2)
    have HBY := Lib.hid hbY
    have HQ2 := Lib.hid q2
    have hc : ∀ i, i < 5 → True := fun _ _ => trivial
    clear q0 q1 q2 hbY hc
    go_region_held3 (fun w' => w'.cell? ⟨w.heap.size, 0, none⟩ = some (.int .u64 n') ∧ w'.cell? ⟨w.heap.size, 1, none⟩ = some (.int .u64 m') ∧ w'.cell? ⟨w.heap.size, 2, none⟩ = some (.slice sA' ss'.length sc'))
      (first
        | with_reducible exact ⟨a0, a1, a2⟩
        | (refine ⟨?_, ?_, ?_⟩ <;> go_simp))
      (first | (go_at_call 66; refine (HC.out Y.drew (Below.refl _ _).drew).mono ?_; rintro e U ⟨A9, c9, rfl, hl9, hn9, hm9, hb9⟩; (have HU := Lib.hid hb9; have HL9 := Lib.hid hl9; clear hl9; replace a0 := (hb9.cell (p := ⟨w.heap.size, 0, none⟩) hs0).trans a0; replace a1 := (hb9.cell (p := ⟨w.heap.size, 1, none⟩) hs0).trans a1; replace a2 := (hb9.cell (p := ⟨w.heap.size, 2, none⟩) hs0).trans a2; have q2U := HQ2.out.below (W' := U) ((Below.refl _ Y).drew.trans hb9); have d0 : U.cell? ⟨w.heap.size + 1 + 1, 0, none⟩ = some (.int .u64 0) := blk_cell q2U 0 _ rfl; have d1 : U.cell? ⟨w.heap.size + 1 + 1, 1, none⟩ = some (.int .u64 0) := blk_cell q2U 1 _ rfl; have d2 : U.cell? ⟨w.heap.size + 1 + 1, 2, none⟩ = some (.slice none 0 0) := blk_cell q2U 2 _ rfl; have d3 : U.cell? ⟨w.heap.size + 1 + 1, 3, none⟩ = some (.slice none 0 0) := blk_cell q2U 3 _ rfl; have d4 : U.cell? ⟨w.heap.size + 1 + 1, 4, none⟩ = some (.slice none 0 0) := blk_cell q2U 4 _ rfl; have f0 := blk_frozen q2U 0; have f1 := blk_frozen q2U 1; have f2 := blk_frozen q2U 2; have f3 := blk_frozen q2U 3; have f4 := blk_frozen q2U 4; have Q2U := Lib.hid q2U; have hsU : w.heap.size + 1 + 1 ≠ w.heap.size := (by omega); clear q2U hb9)))
    go_wp2_with fail
    refine bodyPost_ret (V4.results_cellV rfl _ _ (w.heap.size + 1 + 1) (.int .u64 n') (.int .u64 m') (.slice A9 ss'.length c9) (.slice none 0 0) (.slice none 0 0) rfl (blk_cell (set5_blk Q2U.out) 0 _ rfl) (blk_cell (set5_blk Q2U.out) 1 _ rfl) (blk_cell (set5_blk Q2U.out) 2 _ rfl) (blk_cell (set5_blk Q2U.out) 3 _ rfl) (blk_cell (set5_blk Q2U.out) 4 _ rfl)) rfl ?_
    have hbU : Below w.heap.size w U := HBY.out.trans (((Below.refl _ Y).drew.trans HU.out).mono HBY.out.size)
    refine ⟨.mk n' m' A9 c9 ss' none 0 [] none 0 [], rfl, by rw [er_mk]; rfl, ((texts_in n' m' PY.out.hn PY.out.hm HL9.out hn9 hm9 PY.out.sb.2.2 PY.out.st).keep fun b hP => set5_low (by have := hP.1; simp only [World.drew] at this; omega)).mono fun b hP => ⟨?_, ?_⟩, set5_bel hbU (by omega)⟩
    · have := hP.1; simp only [World.drew] at this; omega
    · exact Nat.lt_of_lt_of_le hP.2 (Nat.le_of_eq set5_size.symm)
  · have hk : decide (q < 0) = false := decide_eq_false hd
    have hr := HL.out
    rw [if_neg hd] at hr
    simp only [Va.n, Va.m, Va.s] at hr
    subst hr
    clear hd HL
    obtain ⟨Y, hY⟩ : ∃ Y, Y = W := ⟨_, rfl⟩
    rw [← hY] at hbW hsW q0 q1 q2
    rw [← hY]
    have hbY := hbW
    have hsY := hsW
    clear hY hbW hsW
    have hs0 : w.heap.size < Y.heap.size := by omega
    have hs2 : w.heap.size + 1 + 1 < Y.heap.size := by omega
    go_wp2_with fail
    have a0 : Y.cell? ⟨w.heap.size, 0, none⟩ = some (.int .u64 n) := blk_cell q0 0 _ rfl
    have a1 : Y.cell? ⟨w.heap.size, 1, none⟩ = some (.int .u64 m) := blk_cell q0 1 _ rfl
    have a2 : Y.cell? ⟨w.heap.size, 2, none⟩ = some (.slice sA ss.length sc) := blk_cell q0 2 _ rfl
    have HC := Lib.hid (fun U (hb : Below Y.heap.size Y U) => cloneS_any sA sc ss U ((PX.out.sl.below hbY).below hb) PX.out.sb.2.2)
    have HBY := Lib.hid hbY
    have HQ2 := Lib.hid q2
    have hc : ∀ i, i < 5 → True := fun _ _ => trivial
    clear q0 q1 q2 hbY hc
    go_region_held3 (fun w' => w'.cell? ⟨w.heap.size, 0, none⟩ = some (.int .u64 n) ∧ w'.cell? ⟨w.heap.size, 1, none⟩ = some (.int .u64 m) ∧ w'.cell? ⟨w.heap.size, 2, none⟩ = some (.slice sA ss.length sc))
      (first
        | with_reducible exact ⟨a0, a1, a2⟩
        | (refine ⟨?_, ?_, ?_⟩ <;> go_simp))
      (first | (go_at_call 66; refine (HC.out Y.drew (Below.refl _ _).drew).mono ?_; rintro e U ⟨A9, c9, rfl, hl9, hn9, hm9, hb9⟩; (have HU := Lib.hid hb9; have HL9 := Lib.hid hl9; clear hl9; replace a0 := (hb9.cell (p := ⟨w.heap.size, 0, none⟩) hs0).trans a0; replace a1 := (hb9.cell (p := ⟨w.heap.size, 1, none⟩) hs0).trans a1; replace a2 := (hb9.cell (p := ⟨w.heap.size, 2, none⟩) hs0).trans a2; have q2U := HQ2.out.below (W' := U) ((Below.refl _ Y).drew.trans hb9); have d0 : U.cell? ⟨w.heap.size + 1 + 1, 0, none⟩ = some (.int .u64 0) := blk_cell q2U 0 _ rfl; have d1 : U.cell? ⟨w.heap.size + 1 + 1, 1, none⟩ = some (.int .u64 0) := blk_cell q2U 1 _ rfl; have d2 : U.cell? ⟨w.heap.size + 1 + 1, 2, none⟩ = some (.slice none 0 0) := blk_cell q2U 2 _ rfl; have d3 : U.cell? ⟨w.heap.size + 1 + 1, 3, none⟩ = some (.slice none 0 0) := blk_cell q2U 3 _ rfl; have d4 : U.cell? ⟨w.heap.size + 1 + 1, 4, none⟩ = some (.slice none 0 0) := blk_cell q2U 4 _ rfl; have f0 := blk_frozen q2U 0; have f1 := blk_frozen q2U 1; have f2 := blk_frozen q2U 2; have f3 := blk_frozen q2U 3; have f4 := blk_frozen q2U 4; have Q2U := Lib.hid q2U; have hsU : w.heap.size + 1 + 1 ≠ w.heap.size := (by omega); clear q2U hb9)))
    go_wp2_with fail
    refine bodyPost_ret (V4.results_cellV rfl _ _ (w.heap.size + 1 + 1) (.int .u64 n) (.int .u64 m) (.slice A9 ss.length c9) (.slice none 0 0) (.slice none 0 0) rfl (blk_cell (set5_blk Q2U.out) 0 _ rfl) (blk_cell (set5_blk Q2U.out) 1 _ rfl) (blk_cell (set5_blk Q2U.out) 2 _ rfl) (blk_cell (set5_blk Q2U.out) 3 _ rfl) (blk_cell (set5_blk Q2U.out) 4 _ rfl)) rfl ?_
    have hbU : Below w.heap.size w U := HBY.out.trans (((Below.refl _ Y).drew.trans HU.out).mono HBY.out.size)
    refine ⟨.mk n m A9 c9 ss none 0 [] none 0 [], rfl, by rw [er_mk]; rfl, ((texts_in n m PX.out.hn PX.out.hm HL9.out hn9 hm9 PX.out.sb.2.2 PX.out.st).keep fun b hP => set5_low (by have := hP.1; simp only [World.drew] at this; omega)).mono fun b hP => ⟨?_, ?_⟩, set5_bel hbU (by omega)⟩
    · have := hP.1; simp only [World.drew] at this; omega
    · exact Nat.lt_of_lt_of_le hP.2 (Nat.le_of_eq set5_size.symm)
end Go.Proofs.YtdbohojncbeajaaGreat.J5

namespace Go.Proofs.YtdbohojncbeajaaGreat.C3
open Go.RowKit

def lenV : Value → Nat | .slice _ n _ => n | _ => 0

/-- The cells of a new row of zero ticks. -/
def madeT (n : Nat) : Array Value := madeCells #[.int .i64 0, .int .u64 0] n
theorem size_madeT (n : Nat) : (madeT n).size = n := size_madeCells _ _

theorem run_make0 (W : World) (t : TypeId) (ht : Tryz.prog.underlying t = some (.slice 60)) (m : Nat) (k : Int) (hk : k = m) (hm : m ≤ 1000000) :
    (Instr.makeSlice t (.int .i64 0) (.int .i64 k)).run Tryz.prog W = .ok (.slice (some ⟨W.heap.size, 0, none⟩) 0 m) (W.alloc (.cells (madeT (m * 2)) 60)) := by
  subst hk
  obtain ⟨i0, hi, hz0, hz1, hz2⟩ := info_parts Tryz.infoTick
  have hr := run_make (P := Tryz.prog) W t _ i0 _ ht hi hz0 .i64 .i64 0 m (Int.le_refl _) (by omega) (by rw [hz2]; omega) (by omega)
  simp only [Int.toNat_zero, Int.toNat_natCast, hz1] at hr
  exact hr

theorem OwnT.made (w : World) (m : Nat) (hm : m ≤ 1000000) : OwnT (w.alloc (.cells (madeT (m * 2)) 60)) w.heap.size (.slice (some ⟨w.heap.size, 0, none⟩) 0 m) [] :=
  World.ownsRow_made w (madeT (m * 2)) m (Nat.le_refl _) (by unfold maxLen; omega) (by rw [size_madeT])

theorem merge_done {M zs xs ys : List Tk} (h : M = zs ++ mergeC xs ys) (he : xs = [] ∨ ys = []) : M = (zs ++ xs) ++ ys := by
  rcases he with rfl | rfl
  · rw [h, mergeC_nil_left]; simp
  · rw [h, mergeC_nil_right]; simp
theorem merge_lt {M zs xs ys : List Tk} {x y : Tk} (h : M = zs ++ mergeC (x :: xs) (y :: ys)) (hlt : x.k < y.k) : M = (zs ++ [x]) ++ mergeC xs (y :: ys) := by
  rw [h, mergeC_lt _ _ hlt]; simp
theorem merge_gt {M zs xs ys : List Tk} {x y : Tk} (h : M = zs ++ mergeC (x :: xs) (y :: ys)) (hlt : y.k < x.k) : M = (zs ++ [y]) ++ mergeC (x :: xs) ys := by
  rw [h, mergeC_gt _ _ hlt]; simp
theorem merge_eq {M zs xs ys : List Tk} {x y : Tk} (h : M = zs ++ mergeC (x :: xs) (y :: ys)) (hlt : x.k = y.k) : M = (zs ++ [laterC x y]) ++ mergeC xs ys := by
  rw [h, mergeC_eq _ _ hlt]; simp

theorem LiesB.head {m : Nat} {w : World} {A : Option Addr} {x : Tk} {xs : List Tk} (h : LiesB m w A (x :: xs)) : ∃ b off, A = some ⟨b, off, none⟩ ∧ b < m ∧ w.cell? ⟨b, off, none⟩ = some (.int .i64 x.k) ∧ w.cell? ⟨b, off + 1, none⟩ = some (.int .u64 x.n) := by
  obtain ⟨b, off, rfl, hb, hc⟩ := h.get (k := 0) (by simp)
  have := hc 0 x rfl
  exact ⟨b, off, rfl, hb, by simpa using this⟩

/-- A call that answers the ticks ys, in new memory, and leaves all that was there. -/
def RetF (w : World) (ys : List Tk) (e : Ending) (w' : World) : Prop :=
  ∃ A c, e = .returned (.slice A ys.length c) ∧ In w' A c ys ∧ (∀ a, A = some a → w.heap.size ≤ a.block) ∧ Below w.heap.size w w'
theorem RetF.toT {w w' : World} {ys : List Tk} {e : Ending} (h : RetF w ys e w') : RetT w ys e w' := by
  obtain ⟨A, c, h1, h2, _, h3⟩ := h
  exact ⟨A, c, h1, h2, h3⟩
theorem retF_of_own {w w' : World} {v : Value} {ys zs : List Tk} (h : OwnT w' w.heap.size v ys) (e : ys = zs) (hn : Nok zs) (hb : Below w.heap.size w w') : RetF w zs (.returned v) w' := by
  subst e
  obtain ⟨A, c, rfl, h1⟩ := h.form hn
  refine ⟨A, c, rfl, h1, fun a ha => ?_, hb⟩
  subst ha
  exact (h.lt (k := a.block) rfl).1

theorem later_at (xk xn yk yn tk tn : Int) (w : World) (h : laterC ⟨xk, xn⟩ ⟨yk, yn⟩ = ⟨tk, tn⟩) : Calls Tryz.prog 96 #[.agg #[.int .i64 xk, .int .u64 xn], .agg #[.int .i64 yk, .int .u64 yn]] w (RetV w (.agg #[.int .i64 tk, .int .u64 tn])) := by
  have := later_any xk xn yk yn w
  rw [h] at this
  exact this

set_option maxRecDepth 100000 in
set_option maxHeartbeats 4000000 in
theorem merged_new (A B : Option Addr) (c d : Nat) (l l' : List Tk) (w : World) (h : In w A c l) (h' : In w B d l') (hn : Nok (mergeC l l')) (hlen : l.length ≤ 1000) (hlen' : l'.length ≤ 1000) :
    Calls Tryz.prog 94 #[.slice A l.length c, .slice B l'.length d, .func (.func 95) #[] #[], .func (.func 96) #[] #[]] w (RetF w (mergeC l l')) := by
  obtain ⟨hl, hcap, htop, -⟩ := h
  obtain ⟨hl', hcap', htop', -⟩ := h'
  have HN := Lib.hid hn
  have hmk : ∀ W : World, (Instr.makeSlice 44 (.int .i64 0) (.int .i64 ((l.length : Int) + l'.length))).run Tryz.prog W = .ok (.slice (some ⟨W.heap.size, 0, none⟩) 0 (l.length + l'.length)) (W.alloc (.cells (madeT ((l.length + l'.length) * 2)) 60)) :=
    fun W => run_make0 W _ Tryz.underlying44 (l.length + l'.length) _ (by omega) (by omega)
  clear hn
  go_enter Tryz.func94, Tryz.ntmps94
  go_wp2_with fail
  clear hmk
  go_loopw [0, 1, 9] (fun av bv ov wr => ∃ (xs ys zs : List Tk) (A' B' : Option Addr) (c' d' : Nat), av = .slice A' xs.length c' ∧ bv = .slice B' ys.length d' ∧ xs.length ≤ c' ∧ ys.length ≤ d' ∧ c' ≤ maxLen ∧ d' ≤ maxLen ∧ LiesB w.heap.size wr A' xs ∧ LiesB w.heap.size wr B' ys ∧
    OwnT wr w.heap.size ov zs ∧ Hid (mergeC l l' = zs ++ mergeC xs ys) ∧ zs.length + xs.length + ys.length ≤ l.length + l'.length ∧ Below w.heap.size w wr) (fun av bv _ _ => lenV av + lenV bv)
  case atStart => exact ⟨l, l', [], A, B, c, d, rfl, rfl, hcap, hcap', htop, htop', hl.below (allocB _ _), hl'.below (allocB _ _), OwnT.made w _ (by omega), by simp [Hid], by simp, allocB _ _⟩
  case round =>
    obtain ⟨xs, ys, zs, A', B', c', d', rfl, rfl, hc1, hd1, hcm, hdm, hl1, hm1, hown, h0, hsum, hbw⟩ := hrel
    unfold maxLen at hcm hdm
    clear hl hl' hcap hcap' htop htop'
    cases xs with
    | nil =>
      have hz1 : zs.length + ([] : List Tk).length ≤ 1000000 := by simp at hsum ⊢; omega
      have hz2 : (zs ++ ([] : List Tk)).length + ys.length ≤ 1000000 := by simp at hsum ⊢; omega
      have HO := Lib.hid hown
      have HL := Lib.hid hl1
      have HM := Lib.hid hm1
      have HB := Lib.hid hbw
      clear hown hl1 hm1 hbw
      go_wp2_with (first
        | (at_builtin; refine wpList_app _ rfl (.tmp 70) (.tmp 71) 44 rfl w.heap.size Tryz.underlying44 u9 zs rfl HO.out _ A' 0 c' [] rfl rfl HL.out hz1 HB.out.size ?_; intro v1 w1 hown1 hg1 hat1; have hbw0 : Below w.heap.size wr w1 := (Below.refl w.heap.size wr).grown hg1 HB.out.size (fun k hk => (HO.out.lt hk).1); have hbw1 : Below w.heap.size w w1 := HB.out.trans hbw0)
        | (at_builtin; refine wpList_app _ rfl (.tmp 72) (.tmp 73) 44 rfl w.heap.size Tryz.underlying44 v1 (zs ++ []) rfl hown1 _ B' ys.length d' ys rfl rfl (HM.out.below hbw0) hz2 hbw1.size ?_; intro v2 w2 hown2 hg2 hat2; have hbw2 : Below w.heap.size w w2 := hbw1.grown hg2 hbw1.size (fun k hk => (hown1.lt hk).1)))
      go_ret
      exact retF_of_own hown2 (merge_done h0.out (.inl rfl)).symm HN.out hbw2
    | cons x xs =>
      cases ys with
      | nil =>
        have hz1 : zs.length + (x :: xs).length ≤ 1000000 := by simp at hsum ⊢; omega
        have hz2 : (zs ++ (x :: xs)).length + ([] : List Tk).length ≤ 1000000 := by simp at hsum ⊢; omega
        have HO := Lib.hid hown
        have HL := Lib.hid hl1
        have HM := Lib.hid hm1
        have HB := Lib.hid hbw
        clear hown hl1 hm1 hbw
        go_wp2_with (first
          | (at_builtin; refine wpList_app _ rfl (.tmp 70) (.tmp 71) 44 rfl w.heap.size Tryz.underlying44 u9 zs rfl HO.out _ A' (xs.length + 1) c' (x :: xs) rfl rfl HL.out hz1 HB.out.size ?_; intro v1 w1 hown1 hg1 hat1; have hbw0 : Below w.heap.size wr w1 := (Below.refl w.heap.size wr).grown hg1 HB.out.size (fun k hk => (HO.out.lt hk).1); have hbw1 : Below w.heap.size w w1 := HB.out.trans hbw0)
          | (at_builtin; refine wpList_app _ rfl (.tmp 72) (.tmp 73) 44 rfl w.heap.size Tryz.underlying44 v1 (zs ++ (x :: xs)) rfl hown1 _ B' 0 d' [] rfl rfl (HM.out.below hbw0) hz2 hbw1.size ?_; intro v2 w2 hown2 hg2 hat2; have hbw2 : Below w.heap.size w w2 := hbw1.grown hg2 hbw1.size (fun k hk => (hown1.lt hk).1)))
        go_ret
        exact retF_of_own hown2 (merge_done h0.out (.inr rfl)).symm HN.out hbw2
      | cons y ys =>
        obtain ⟨b, off, rfl, hb, hx0, hx1⟩ := hl1.head
        obtain ⟨b', off', rfl, hb', hy0, hy1⟩ := hm1.head
        have HL := Lib.hid hl1
        have HM := Lib.hid hm1
        have HO := Lib.hid hown
        have HB := Lib.hid hbw
        have hbb : b < wr.heap.size := Nat.lt_of_lt_of_le hb hbw.size
        have hbb' : b' < wr.heap.size := Nat.lt_of_lt_of_le hb' hbw.size
        clear hl1 hm1 hown hbw
        obtain ⟨xk, xn⟩ := x
        obtain ⟨yk, yn⟩ := y
        dsimp only at hx0 hx1 hy0 hy1
        have q1 : xs.length + 1 ≤ c' := hc1
        have q2 : ys.length + 1 ≤ d' := hd1
        have hx9 : xs.length ≤ 2000 := by simp at hsum; omega
        have hy9 : ys.length ≤ 2000 := by simp at hsum; omega
        have hz9 : zs.length ≤ 100000 := by simp at hsum; omega
        have hs1 : (1 : Int) ≤ (xs.length : Int) + 1 := by omega
        have hs2 : (1 : Int) ≤ (ys.length : Int) + 1 := by omega
        go_wp2_with fail
        go_still_tail 7, (by kernel_rfl)
        change wpList _ _ _ _ _ wr.drew
        go_wp2_with fail
        refine (byWho_any xk xn yk yn _).mono ?_
        rintro e w4 ⟨rfl, hb4⟩
        have hbd : Below wr.heap.size wr w4 := ((Below.refl _ wr).drew).trans hb4
        replace hx0 := (hbd.cell (p := ⟨b, off, none⟩) hbb).trans hx0
        replace hx1 := (hbd.cell (p := ⟨b, off + 1, none⟩) hbb).trans hx1
        replace hy0 := (hbd.cell (p := ⟨b', off', none⟩) hbb').trans hy0
        replace hy1 := (hbd.cell (p := ⟨b', off' + 1, none⟩) hbb').trans hy1
        replace hbb := Nat.lt_of_lt_of_le hbb hbd.size
        replace hbb' := Nat.lt_of_lt_of_le hbb' hbd.size
        replace HL := Lib.hid (HL.out.below (hbd.mono HB.out.size))
        replace HM := Lib.hid (HM.out.below (hbd.mono HB.out.size))
        replace HO := Lib.hid (HO.out.below hbd)
        replace HB : Hid (Below w.heap.size w w4) := HB.out.trans (hbd.mono HB.out.size)
        clear hb4 hbd
        rcases Int.lt_trichotomy xk yk with hxy | hxy | hxy
        · have HXY := Lib.hid hxy
          rw [cmpI_lt hxy]
          clear hxy
          by_cases hcc : c' = 1
          all_goals
            go_wp2_with fail
            go_region_held3 (fun w' => w'.cell? ⟨b, off, none⟩ = some (.int .i64 xk) ∧ w'.cell? ⟨b, off + 1, none⟩ = some (.int .u64 xn) ∧ w'.cell? ⟨b', off', none⟩ = some (.int .i64 yk) ∧ w'.cell? ⟨b', off' + 1, none⟩ = some (.int .u64 yn))
              (first
                | exact ⟨hx0, hx1, hy0, hy1⟩
                | (refine ⟨?_, ?_, ?_, ?_⟩ <;> go_simp))
              (first
              | (refine step_app _ rfl (.tmp 51) (.tmp 55) 44 rfl w.heap.size Tryz.underlying44 u9 zs ?qs ?qo (w4.heap.size + 1) (some ⟨w4.heap.size, 0, none⟩) 1 1 [⟨xk, xn⟩] rfl ?qx ?ql ?qn ?qb ?_
                 case qs => go_simp
                 case qo => exact HO.out.below ((allocB w4 (.cells #[.int .i64 xk, .int .u64 xn] 60)).drew)
                 case qx => go_simp
                 case ql => exact LiesB.one (by omega) (by simp) (by simp)
                 case qn => exact len1 hz9
                 case qb => (have := HB.out.size; simp; omega)
                 intro v1 w1 hown1 hg1 hat1
                 have hbw0 : Below w.heap.size w4 w1 := (((Below.refl w.heap.size w4).alloc HB.out.size _).drew).grown hg1 (by have := HB.out.size; simp; omega) (fun k hk => (HO.out.lt hk).1)
                 have hbw1 : Below w.heap.size w w1 := HB.out.trans hbw0
                 replace hx0 := (hbw0.cell (p := ⟨b, off, none⟩) hb).trans hx0
                 replace hx1 := (hbw0.cell (p := ⟨b, off + 1, none⟩) hb).trans hx1
                 replace hy0 := (hbw0.cell (p := ⟨b', off', none⟩) hb').trans hy0
                 replace hy1 := (hbw0.cell (p := ⟨b', off' + 1, none⟩) hb').trans hy1))
            all_goals
              go_wp2_with fail
              go_roundw
              case rel =>
                refine ⟨xs, ⟨yk, yn⟩ :: ys, zs ++ [Tk.mk xk xn], _, _, _, _, rfl, rfl, ?_, ?_, ?_, ?_, ?_, ?_, hown1, merge_lt h0.out HXY.out, ?_, hbw1⟩
                all_goals first
                  | exact HL.out.below hbw0
                  | exact HM.out.below hbw0
                  | exact HL.out.tail.below hbw0
                  | exact HM.out.tail.below hbw0
                  | (refine Or.inl (List.eq_nil_of_length_eq_zero ?_); omega)
                  | (unfold maxLen; omega)
                  | omega
                  | (simp only [List.length_cons]; omega)
                  | (simp at hsum ⊢; omega)
              case measure => first | (simp [lenV]; done) | (simp [lenV]; omega)
        · have HXY := Lib.hid hxy
          rw [hxy, cmpI_eq]
          clear hxy
          obtain ⟨tk, tn, ht⟩ : ∃ tk tn, laterC ⟨xk, xn⟩ ⟨yk, yn⟩ = ⟨tk, tn⟩ := ⟨_, _, rfl⟩
          have HT := Lib.hid ht
          clear ht
          by_cases hcc : c' = 1 <;> by_cases hdd : d' = 1
          all_goals
            go_wp2_with fail
            go_region_held3 (fun w' => w'.cell? ⟨b, off, none⟩ = some (.int .i64 xk) ∧ w'.cell? ⟨b, off + 1, none⟩ = some (.int .u64 xn) ∧ w'.cell? ⟨b', off', none⟩ = some (.int .i64 yk) ∧ w'.cell? ⟨b', off' + 1, none⟩ = some (.int .u64 yn))
              (first
                | exact ⟨hx0, hx1, hy0, hy1⟩
                | (refine ⟨?_, ?_, ?_, ?_⟩ <;> go_simp))
              (first
              | (go_at_call 96; refine (later_at xk xn yk yn tk tn _ HT.out).mono ?_; rintro e w5 ⟨rfl, hb5⟩; (have hbd : Below w4.heap.size w4 w5 := ((Below.refl _ w4).drew).trans hb5; replace HL := Lib.hid (HL.out.below (hbd.mono HB.out.size)); replace HM := Lib.hid (HM.out.below (hbd.mono HB.out.size)); replace HO := Lib.hid (HO.out.below hbd); replace HB : Hid (Below w.heap.size w w5) := HB.out.trans (hbd.mono HB.out.size); replace hx0 := (hbd.cell (p := ⟨b, off, none⟩) hbb).trans hx0; replace hx1 := (hbd.cell (p := ⟨b, off + 1, none⟩) hbb).trans hx1; replace hy0 := (hbd.cell (p := ⟨b', off', none⟩) hbb').trans hy0; replace hy1 := (hbd.cell (p := ⟨b', off' + 1, none⟩) hbb').trans hy1; replace hbb := Nat.lt_of_lt_of_le hbb hbd.size; replace hbb' := Nat.lt_of_lt_of_le hbb' hbd.size; clear hb5 hbd))
              | (refine step_app _ rfl (.tmp 33) (.tmp 42) 44 rfl w.heap.size Tryz.underlying44 u9 zs ?qs ?qo (w5.heap.size + 1) (some ⟨w5.heap.size, 0, none⟩) 1 1 [⟨tk, tn⟩] rfl ?qx ?ql ?qn ?qb ?_
                 case qs => go_simp
                 case qo => exact HO.out.below (allocB w5 (.cells #[.int .i64 tk, .int .u64 tn] 60))
                 case qx => go_simp
                 case ql => exact LiesB.one (by omega) (by simp) (by simp)
                 case qn => exact len1 hz9
                 case qb => (have := HB.out.size; simp; omega)
                 intro v1 w1 hown1 hg1 hat1
                 have hbw0 : Below w.heap.size w5 w1 := ((Below.refl w.heap.size w5).alloc HB.out.size _).grown hg1 (by have := HB.out.size; simp; omega) (fun k hk => (HO.out.lt hk).1)
                 have hbw1 : Below w.heap.size w w1 := HB.out.trans hbw0
                 replace hx0 := (hbw0.cell (p := ⟨b, off, none⟩) hb).trans hx0
                 replace hx1 := (hbw0.cell (p := ⟨b, off + 1, none⟩) hb).trans hx1
                 replace hy0 := (hbw0.cell (p := ⟨b', off', none⟩) hb').trans hy0
                 replace hy1 := (hbw0.cell (p := ⟨b', off' + 1, none⟩) hb').trans hy1))
            all_goals
              go_wp2_with fail
              go_roundw
              case rel =>
                refine ⟨xs, ys, zs ++ [Tk.mk tk tn], _, _, _, _, rfl, rfl, ?_, ?_, ?_, ?_, ?_, ?_, hown1, HT.out ▸ merge_eq h0.out HXY.out, ?_, hbw1⟩
                all_goals first
                  | exact HL.out.below hbw0
                  | exact HM.out.below hbw0
                  | exact HL.out.tail.below hbw0
                  | exact HM.out.tail.below hbw0
                  | (refine Or.inl (List.eq_nil_of_length_eq_zero ?_); omega)
                  | (unfold maxLen; omega)
                  | omega
                  | (simp only [List.length_cons]; omega)
                  | (simp at hsum ⊢; omega)
              case measure => first | (simp [lenV]; done) | (simp [lenV]; omega)
        · have HXY := Lib.hid hxy
          rw [cmpI_gt hxy]
          clear hxy
          by_cases hdd : d' = 1
          all_goals
            go_wp2_with fail
            go_region_held3 (fun w' => w'.cell? ⟨b, off, none⟩ = some (.int .i64 xk) ∧ w'.cell? ⟨b, off + 1, none⟩ = some (.int .u64 xn) ∧ w'.cell? ⟨b', off', none⟩ = some (.int .i64 yk) ∧ w'.cell? ⟨b', off' + 1, none⟩ = some (.int .u64 yn))
              (first
                | exact ⟨hx0, hx1, hy0, hy1⟩
                | (refine ⟨?_, ?_, ?_, ?_⟩ <;> go_simp))
              (first
              | (refine step_app _ rfl (.tmp 62) (.tmp 66) 44 rfl w.heap.size Tryz.underlying44 u9 zs ?qs ?qo (w4.heap.size + 1) (some ⟨w4.heap.size, 0, none⟩) 1 1 [⟨yk, yn⟩] rfl ?qx ?ql ?qn ?qb ?_
                 case qs => go_simp
                 case qo => exact HO.out.below ((allocB w4 (.cells #[.int .i64 yk, .int .u64 yn] 60)).drew)
                 case qx => go_simp
                 case ql => exact LiesB.one (by omega) (by simp) (by simp)
                 case qn => exact len1 hz9
                 case qb => (have := HB.out.size; simp; omega)
                 intro v1 w1 hown1 hg1 hat1
                 have hbw0 : Below w.heap.size w4 w1 := (((Below.refl w.heap.size w4).alloc HB.out.size _).drew).grown hg1 (by have := HB.out.size; simp; omega) (fun k hk => (HO.out.lt hk).1)
                 have hbw1 : Below w.heap.size w w1 := HB.out.trans hbw0
                 replace hx0 := (hbw0.cell (p := ⟨b, off, none⟩) hb).trans hx0
                 replace hx1 := (hbw0.cell (p := ⟨b, off + 1, none⟩) hb).trans hx1
                 replace hy0 := (hbw0.cell (p := ⟨b', off', none⟩) hb').trans hy0
                 replace hy1 := (hbw0.cell (p := ⟨b', off' + 1, none⟩) hb').trans hy1))
            all_goals
              go_wp2_with fail
              go_roundw
              case rel =>
                refine ⟨⟨xk, xn⟩ :: xs, ys, zs ++ [Tk.mk yk yn], _, _, _, _, rfl, rfl, ?_, ?_, ?_, ?_, ?_, ?_, hown1, merge_gt h0.out HXY.out, ?_, hbw1⟩
                all_goals first
                  | exact HL.out.below hbw0
                  | exact HM.out.below hbw0
                  | exact HL.out.tail.below hbw0
                  | exact HM.out.tail.below hbw0
                  | (refine Or.inl (List.eq_nil_of_length_eq_zero ?_); omega)
                  | (unfold maxLen; omega)
                  | omega
                  | (simp only [List.length_cons]; omega)
                  | (simp at hsum ⊢; omega)
              case measure => first | (simp [lenV]; done) | (simp [lenV]; omega)
end Go.Proofs.YtdbohojncbeajaaGreat.C3

namespace Go.Proofs.YtdbohojncbeajaaGreat.C3
open Go.RowKit

theorem mergeC_nok {a b : List Tk} (ha : Nok a) (hb : Nok b) : Nok (mergeC a b) := by
  induction a, b using mergeC.induct with
  | case1 b => rw [mergeC_nil_left]; exact hb
  | case2 x a => rw [mergeC_nil_right]; exact ha
  | case3 x a y b hlt ih =>
    rw [mergeC_lt _ _ hlt]
    intro z hz
    rcases List.mem_cons.1 hz with rfl | hz
    · exact ha z (by simp)
    · exact ih (fun u hu => ha u (by simp [hu])) hb z hz
  | case4 x a y b hlt hgt ih =>
    rw [mergeC_gt _ _ hgt]
    intro z hz
    rcases List.mem_cons.1 hz with rfl | hz
    · exact hb z (by simp)
    · exact ih ha (fun u hu => hb u (by simp [hu])) z hz
  | case5 x a y b hlt hgt ih =>
    rw [mergeC_eq _ _ (by omega)]
    intro z hz
    rcases List.mem_cons.1 hz with rfl | hz
    · unfold laterC
      split
      · exact hb y (by simp)
      · exact ha x (by simp)
    · exact ih (fun u hu => ha u (by simp [hu])) (fun u hu => hb u (by simp [hu])) z hz

set_option maxHeartbeats 400000 in
theorem Join_new (A B : Option Addr) (c d : Nat) (l l' : List Tk) (w : World) (h : In w A c l) (h' : In w B d l') (hlen : l.length ≤ 1000) (hlen' : l'.length ≤ 1000) :
    Calls Tryz.prog 68 #[.slice A l.length c, .slice B l'.length d] w (RetF w (mergeC l l')) := by
  have HJ := Lib.hid (merged_new A B c d l l' w h h' (mergeC_nok h.nok h'.nok) hlen hlen')
  clear h h'
  go_enter Tryz.func68, Tryz.ntmps68
  go_wp2_with fail
  refine HJ.out.mono ?_
  rintro e w' ⟨A2, c2, rfl, hin, hf, hb⟩
  go_wp2_with fail
  go_ret
  exact ⟨A2, c2, rfl, hin, hf, hb⟩

theorem Join_any (A B : Option Addr) (c d : Nat) (l l' : List Tk) (w : World) (h : In w A c l) (h' : In w B d l') (hlen : l.length ≤ 1000) (hlen' : l'.length ≤ 1000) :
    Calls Tryz.prog 68 #[.slice A l.length c, .slice B l'.length d] w (RetT w (mergeC l l')) := (Join_new A B c d l l' w h h' hlen hlen').mono fun _ _ h => h.toT
end Go.Proofs.YtdbohojncbeajaaGreat.C3

namespace Go.Proofs.YtdbohojncbeajaaGreat.J5
open Go.RowKit Go.Shelf
open C3 (Tk In mergeC belAl allocB)
open V4 (Va Vl Ck LiesC cellsC cellsC_len InC val_mk er_mk)

/-- A clock in new memory, as a part of a value. -/
theorem ck_of_in {W : World} {base : Nat} {A : Option Addr} {c : Nat} {l : List Tk} (h : In W A c l) (hA : ∀ a, A = some a → base ≤ a.block) (hl : l.length ≤ 1000) : (Ck.mk A c l).Inp (fun b => base ≤ b ∧ b < W.heap.size) W := by
  refine ⟨?_, h.cap, h.top, h.nok, by simp only; omega⟩
  rcases h.lies with h0 | ⟨b, off, e, hb, hc⟩
  · exact .inl (by simp only; rw [h0]; rfl)
  · subst e
    refine .inr ⟨b, off, rfl, ⟨hA _ rfl, hb⟩, fun i u hu => ?_⟩
    have := C3.LiesB.cells (m := W.heap.size) (w := W) (b := b) (off := off) (xs := l) (.inr ⟨b, off, rfl, hb, hc⟩) i u hu
    cases i <;> simpa [Addr.add] using this

theorem foldl_take {l : List (List Tk)} {k : Nat} {x : List Tk} (hx : l[k]? = some x) : (l.take (k + 1)).foldl mergeC [] = mergeC ((l.take k).foldl mergeC []) x := by
  obtain ⟨hk, he⟩ := List.getElem?_eq_some_iff.1 hx
  rw [List.take_succ_eq_append_getElem hk, List.foldl_append, he]
  rfl

set_option maxRecDepth 100000 in
set_option maxHeartbeats 2000000 in
theorem joinClocks_any (x y : Vl) (w : World) (hx : x.In w) (hy : y.In w) (n0 : x.er.c.length ≤ 1) (n1 : y.er.c.length ≤ 1) (hck : ∀ k ∈ x.er.c ++ y.er.c, k.length ≤ 40) :
    Calls Tryz.prog 48 #[x.val, y.val] w (RetJ w (clockE x.er y.er)) := by
  obtain ⟨n, m, sA, sc, ss, cA, cc, cs, vA, vc, vs⟩ := x
  obtain ⟨n', m', sA', sc', ss', cA', cc', cs', vA', vc', vs'⟩ := y
  rw [er_mk] at n0 n1 hck
  rw [er_mk] at hck
  simp only [Va.c, List.length_map] at n0 n1 hck
  rw [← List.map_append] at hck
  have HCE : Hid (clockE (Vl.mk n m sA sc ss cA cc cs vA vc vs).er (Vl.mk n' m' sA' sc' ss' cA' cc' cs' vA' vc' vs').er = if ((cs ++ cs').map Ck.l).foldl mergeC [] = [] then some .zero else if 40 < (((cs ++ cs').map Ck.l).foldl mergeC []).length then none else some (.mk 0 0 [] [((cs ++ cs').map Ck.l).foldl mergeC []] [])) := by
    show clockE _ _ = _
    rw [er_mk, er_mk, List.map_append]; rfl
  obtain ⟨res, hres⟩ : ∃ res, clockE (Vl.mk n m sA sc ss cA cc cs vA vc vs).er (Vl.mk n' m' sA' sc' ss' cA' cc' cs' vA' vc' vs').er = res := ⟨_, rfl⟩
  rw [hres] at HCE
  rw [hres]
  clear hres
  have HCK : Hid (∀ k ∈ cs ++ cs', InC w k ∧ k.l.length ≤ 40) := fun k hk => by
    refine ⟨?_, hck k.l (List.mem_map.2 ⟨k, hk, rfl⟩)⟩
    rcases List.mem_append.1 hk with hk | hk
    · cases hx with | mk _ _ _ _ _ _ _ _ _ _ _ _ _ _ _ _ _ _ b3 _ _ _ => exact b3 k hk
    · cases hy with | mk _ _ _ _ _ _ _ _ _ _ _ _ _ _ _ _ _ _ b3 _ _ _ => exact b3 k hk
  have HLC : Hid (LiesC (fun b => b < w.heap.size) w cA (cellsC cs) ∧ LiesC (fun b => b < w.heap.size) w cA' (cellsC cs')) := by
    constructor
    · cases hx with | mk _ _ _ _ _ _ _ _ _ _ _ _ _ _ _ _ b1 _ _ _ _ _ => exact b1
    · cases hy with | mk _ _ _ _ _ _ _ _ _ _ _ _ _ _ _ _ b1 _ _ _ _ _ => exact b1
  have HN := Lib.hid (And.intro n0 n1)
  clear hx hy hck n0 n1
  simp only [val_mk]
  obtain ⟨V, hV⟩ : ∃ V, ((w.alloc (.cells #[.int .u64 n, .int .u64 m, .slice sA ss.length sc, .slice cA cs.length cc, .slice vA vs.length vc] 29)).alloc (.cells #[.int .u64 n', .int .u64 m', .slice sA' ss'.length sc', .slice cA' cs'.length cc', .slice vA' vs'.length vc'] 29)).alloc (.cells #[.int .u64 0, .int .u64 0, .slice none 0 0, .slice none 0 0, .slice none 0 0] 29) = V := ⟨_, rfl⟩
  obtain ⟨q0, q1, q2, hb0, hsz0⟩ := blk3 hV
  have hsz : w.heap.size + 3 ≤ V.heap.size := by omega
  clear hsz0
  have a3 : V.cell? ⟨w.heap.size, 3, none⟩ = some (.slice cA cs.length cc) := blk_cell q0 3 _ rfl
  have b3 : V.cell? ⟨w.heap.size + 1, 3, none⟩ = some (.slice cA' cs'.length cc') := blk_cell q1 3 _ rfl
  obtain ⟨V2, hV2⟩ : ∃ V2, V.alloc (.cells #[.slice cA cs.length cc, .slice cA' cs'.length cc'] 26) = V2 := ⟨_, rfl⟩
  have hbV2 : Below V.heap.size V V2 := by rw [← hV2]; exact allocB _ _
  have q7 : Blk V2 V.heap.size 26 #[.slice cA cs.length cc, .slice cA' cs'.length cc'] := by rw [← hV2]; exact Blk.new _ _ _
  have hbwV2 : Below w.heap.size w V2 := hb0.trans (hbV2.mono hb0.size)
  go_enter Tryz.func48, Tryz.ntmps48
  go_wp2_with fail
  refine (concat_any V.heap.size 2 cA cc cs cA' cc' cs' V2 (blk_cell q7 0 _ rfl) (blk_cell q7 1 _ rfl) ((HLC.out.1.below hbwV2).mono fun _ h => Nat.lt_of_lt_of_le h hbwV2.size) ((HLC.out.2.below hbwV2).mono fun _ h => Nat.lt_of_lt_of_le h hbwV2.size) (Nat.le_trans HN.out.1 (by decide)) (Nat.le_trans HN.out.2 (by decide))).mono ?_
  rintro e W ⟨v3, rfl, hown3, hb3⟩
  obtain ⟨A3, c3, rfl, _⟩ := row_form hown3
  have HR := Lib.hid (row_lies hown3).1
  have hlen : (cs ++ cs').length ≤ 2 := by rw [List.length_append]; have := HN.out.1; have := HN.out.2; omega
  obtain ⟨K, hK⟩ : ∃ K, cs ++ cs' = K := ⟨_, rfl⟩
  rw [hK] at hlen HR HCK HCE
  rw [hK]
  have hbVW : Below V.heap.size V W := hbV2.trans (hb3.mono hbV2.size)
  have hbW : Below w.heap.size w W := hb0.trans (hbVW.mono hb0.size)
  have HQ2 := Lib.hid (q2.below hbVW)
  have HBW := Lib.hid hbW
  have hsW : w.heap.size + 3 ≤ W.heap.size := by have := hbVW.size; omega
  have hln : K.length ≤ 9223372036854775807 := by omega
  clear hK hown3 q7 hV2 hV hbV2 hbwV2 hb3 q0 q1 q2 a3 b3 hbVW hb0 hbW HLC HN
  go_wp2_with fail
  go_loopw [6, 16] (fun av iv wr => ∃ (k : Nat) (A : Option Addr) (c : Nat) (l : List Tk), k ≤ K.length ∧ iv = .int .i64 k ∧ av = .slice A l.length c ∧ Hid (((K.map Ck.l).take k).foldl mergeC [] = l) ∧ Hid (In wr A c l) ∧ Hid (∀ a, A = some a → W.heap.size ≤ a.block) ∧ Hid (Below W.heap.size W wr) ∧ l.length ≤ 40 * k) (fun _ iv _ => K.length - (intOf iv).toNat)
  case atStart => exact ⟨0, none, 0, [], Nat.zero_le _, rfl, rfl, rfl, C3.In.nil _, (fun a h => by cases h), Below.refl _ _, Nat.zero_le _⟩
  case round =>
    obtain ⟨k, A, c, l, hk, rfl, rfl, HF, HI, HA, HB, hl40⟩ := hrel
    by_cases hlt : k < K.length
    · obtain ⟨x, hx⟩ : ∃ x, K[k]? = some x := ⟨_, List.getElem?_eq_getElem hlt⟩
      obtain ⟨b, off, rfl, hbb, hc0⟩ := V4.clock_at HR.out hx
      have hc1 : wr.cell? ⟨b, off + k, none⟩ = some x.v := (HB.out.cell (p := ⟨b, off + k, none⟩) hbb.2).trans hc0
      have HX := Lib.hid hx
      obtain ⟨hxi, hx40⟩ := HCK.out x (List.mem_of_getElem? hx)
      have HXI : Hid (In wr x.A x.c x.l) := ((hxi.later (HBW.out.trans (HB.out.mono HBW.out.size))).inn)
      have hbl : b < wr.heap.size := Nat.lt_of_lt_of_le hbb.2 HB.out.size
      clear hx hc0 hxi hbb
      obtain ⟨xA, xc, xl⟩ := x
      simp only [V4.Ck.v] at hc1 hx40 HXI
      have l1 : l.length ≤ 1000 := by omega
      have l2 : xl.length ≤ 1000 := by omega
      go_wp2_with fail
      refine (C3.Join_new A xA c xc l xl _ HI.out HXI.out l1 l2).mono ?_
      rintro e w2 ⟨A2, c2, rfl, hin, hf, hb2⟩
      have HB2 : Hid (Below W.heap.size W w2) := HB.out.trans (hb2.mono HB.out.size)
      have HIN := Lib.hid hin
      have HF2 : Hid (∀ a, A2 = some a → W.heap.size ≤ a.block) := fun a ha => Nat.le_trans HB.out.size (hf a ha)
      have hml := C3.mergeC_len l xl
      have HFX : Hid (((K.map Ck.l).take (k + 1)).foldl mergeC [] = mergeC l xl) := by
        show _ = _
        rw [foldl_take (k := k) (x := xl) (by rw [List.getElem?_map, HX.out]; rfl), HF.out]
      obtain ⟨ml, hmm⟩ : ∃ ml, mergeC l xl = ml := ⟨_, rfl⟩
      rw [hmm] at HIN HFX hml
      rw [hmm]
      clear hmm hin hf hb2
      go_wp2_with fail
      go_roundw
      case rel => exact ⟨k + 1, A2, c2, ml, by omega, by go_num, rfl, HFX, HIN, HF2, HB2, by omega⟩
      case measure => simp [intOf]; omega
    · have hkk : k = K.length := by omega
      have HFA : Hid ((K.map Ck.l).foldl mergeC [] = l) := by
        have := HF.out
        rwa [List.take_of_length_le (by simp; omega)] at this
      rw [HFA.out] at HCE
      have hl80 : l.length ≤ 80 := by omega
      have q2 := HQ2.out.below HB.out
      have hsr : w.heap.size + 3 ≤ wr.heap.size := Nat.le_trans hsW HB.out.size
      have hbr : Below w.heap.size w wr := HBW.out.trans (HB.out.mono HBW.out.size)
      clear HF HFA HR HCK hkk
      by_cases h0 : l = []
      · subst h0
        have hr := HCE.out
        rw [if_pos rfl] at hr
        subst hr
        have d0 : wr.cell? ⟨w.heap.size + 1 + 1, 0, none⟩ = some (.int .u64 0) := blk_cell q2 0 _ rfl
        have d1 : wr.cell? ⟨w.heap.size + 1 + 1, 1, none⟩ = some (.int .u64 0) := blk_cell q2 1 _ rfl
        have d2 : wr.cell? ⟨w.heap.size + 1 + 1, 2, none⟩ = some (.slice none 0 0) := blk_cell q2 2 _ rfl
        have d3 : wr.cell? ⟨w.heap.size + 1 + 1, 3, none⟩ = some (.slice none 0 0) := blk_cell q2 3 _ rfl
        have d4 : wr.cell? ⟨w.heap.size + 1 + 1, 4, none⟩ = some (.slice none 0 0) := blk_cell q2 4 _ rfl
        have f0 := blk_frozen q2 0
        have f1 := blk_frozen q2 1
        have f2 := blk_frozen q2 2
        have f3 := blk_frozen q2 3
        have f4 := blk_frozen q2 4
        go_wp2_with fail
        refine bodyPost_ret (results_cv rfl _ _ (w.heap.size + 1 + 1) (.int .u64 0) (.int .u64 0) (.slice none 0 0) (.slice none 0 0) (.slice none 0 0) rfl (blk_cell (set5_blk q2) 0 _ rfl) (blk_cell (set5_blk q2) 1 _ rfl) (blk_cell (set5_blk q2) 2 _ rfl) (blk_cell (set5_blk q2) 3 _ rfl) (blk_cell (set5_blk q2) 4 _ rfl)) rfl ?_
        exact .inl ⟨vlZ, by rw [vlZ_er], rfl, V4.inp_zero _ _, set5_bel hbr (by omega)⟩
      · have hr0 := HCE.out
        rw [if_neg h0] at hr0
        replace HCE := Lib.hid hr0
        clear hr0
        have hne : ((l.length : Int) == 0) = false := beq_eq_false_iff_ne.2 (by have := List.length_pos_iff.2 h0; omega)
        clear h0
        obtain ⟨U, hU⟩ : ∃ U, wr.alloc (.cells #[.slice A l.length c] 44) = U := ⟨_, rfl⟩
        have hbU : Below wr.heap.size wr U := by rw [← hU]; exact allocB _ _
        have q8 : Blk U wr.heap.size 44 #[.slice A l.length c] := by rw [← hU]; exact Blk.new _ _ _
        have q2U := q2.below hbU
        have HKI : Hid ((Ck.mk A c l).Inp (fun b => W.heap.size ≤ b ∧ b < wr.heap.size) wr) := ck_of_in HI.out HA.out (by omega)
        have HFT := Lib.hid (fittingT_any A l.length c (.mk 0 0 none 0 [] (some ⟨wr.heap.size, 0, none⟩) 1 [⟨A, c, l⟩] none 0 []) U)
        rw [val_mk] at HFT
        go_wp2_with fail
        refine HFT.out.mono ?_
        clear HFT
        rintro e X ⟨rfl, hbX⟩
        have q2X := q2U.below hbX
        have hsX : wr.heap.size < U.heap.size := q8.lt
        have hsX2 := hbX.size
        have d0 : X.cell? ⟨w.heap.size + 1 + 1, 0, none⟩ = some (.int .u64 0) := blk_cell q2X 0 _ rfl
        have d1 : X.cell? ⟨w.heap.size + 1 + 1, 1, none⟩ = some (.int .u64 0) := blk_cell q2X 1 _ rfl
        have d2 : X.cell? ⟨w.heap.size + 1 + 1, 2, none⟩ = some (.slice none 0 0) := blk_cell q2X 2 _ rfl
        have d3 : X.cell? ⟨w.heap.size + 1 + 1, 3, none⟩ = some (.slice none 0 0) := blk_cell q2X 3 _ rfl
        have d4 : X.cell? ⟨w.heap.size + 1 + 1, 4, none⟩ = some (.slice none 0 0) := blk_cell q2X 4 _ rfl
        have f0 := blk_frozen q2X 0
        have f1 := blk_frozen q2X 1
        have f2 := blk_frozen q2X 2
        have f3 := blk_frozen q2X 3
        have f4 := blk_frozen q2X 4
        have hbwX : Below w.heap.size w X := (hbr.trans (hbU.mono hbr.size)).trans (hbX.mono (Nat.le_trans hbr.size hbU.size))
        have HQ8 := Lib.hid (q8.below hbX)
        have HBX : Hid (Below wr.heap.size wr X) := hbU.trans (hbX.mono hbU.size)
        clear q2 q2U q8 hU hbU hbX hbr
        by_cases h40 : 40 < l.length
        · have hr := HCE.out
          rw [if_pos h40] at hr
          subst hr
          simp only [if_pos h40, vlZ_val]
          go_wp2_with fail
          refine bodyPost_ret (results_cv rfl _ _ (w.heap.size + 1 + 1) (.int .u64 0) (.int .u64 0) (.slice none 0 0) (.slice none 0 0) (.slice none 0 0) rfl (blk_cell (set5_blk q2X) 0 _ rfl) (blk_cell (set5_blk q2X) 1 _ rfl) (blk_cell (set5_blk q2X) 2 _ rfl) (blk_cell (set5_blk q2X) 3 _ rfl) (blk_cell (set5_blk q2X) 4 _ rfl)) rfl ?_
          exact .inr ⟨rfl, rfl, set5_bel hbwX (by omega)⟩
        · have hr := HCE.out
          rw [if_neg h40] at hr
          subst hr
          simp only [if_neg h40, val_mk, List.length_cons, List.length_nil, Nat.zero_add]
          go_wp2_with fail
          refine bodyPost_ret (results_cv rfl _ _ (w.heap.size + 1 + 1) (.int .u64 0) (.int .u64 0) (.slice none 0 0) (.slice (some ⟨wr.heap.size, 0, none⟩) 1 1) (.slice none 0 0) rfl (blk_cell (set5_blk q2X) 0 _ rfl) (blk_cell (set5_blk q2X) 1 _ rfl) (blk_cell (set5_blk q2X) 2 _ rfl) (blk_cell (set5_blk q2X) 3 _ rfl) (blk_cell (set5_blk q2X) 4 _ rfl)) rfl ?_
          refine .inl ⟨.mk 0 0 none 0 [] (some ⟨wr.heap.size, 0, none⟩) 1 [⟨A, c, l⟩] none 0 [], by rw [er_mk]; rfl, rfl, ?_, set5_bel hbwX (by omega)⟩
          have hbY : ∀ b, W.heap.size ≤ b → (set5 X (w.heap.size + 1 + 1) (.int .u64 0) (.int .u64 0) (.slice none 0 0) (.slice (some ⟨wr.heap.size, 0, none⟩) 1 1) (.slice none 0 0)).heap[b]? = X.heap[b]? := fun b hb => set5_low (by omega)
          have hsY : (set5 X (w.heap.size + 1 + 1) (.int .u64 0) (.int .u64 0) (.slice none 0 0) (.slice (some ⟨wr.heap.size, 0, none⟩) 1 1) (.slice none 0 0)).heap.size = X.heap.size := set5_size
          have hWr := HB.out.size
          refine .mk _ _ _ _ _ _ _ _ _ _ _ (by omega) (by omega) (.inl rfl) (by simp) (by simp) (.inr ⟨wr.heap.size, 0, rfl, ⟨by omega, Nat.lt_of_lt_of_le (show wr.heap.size < X.heap.size by omega) (Nat.le_of_eq hsY.symm)⟩, fun i u hu => ?_⟩) (by simp [maxLen]) (fun k hk => ?_) (.inl rfl) (by simp) (by simp)
          · simp only [cellsC, List.map_cons, List.map_nil] at hu
            cases i with
            | zero =>
              simp only [List.getElem?_cons_zero, Option.some.injEq] at hu
              subst hu
              exact (World.cell?_of_block (a := ⟨wr.heap.size, 0, none⟩) (hbY _ (by omega))).trans (blk_cell HQ8.out 0 _ rfl)
            | succ i => simp at hu
          · rw [List.mem_singleton] at hk
            subst hk
            refine ((HKI.out.keep fun b hP => (hbY b hP.1).trans (HBX.out.block b hP.2)).mono fun b hP => ⟨by omega, ?_⟩)
            exact Nat.lt_of_lt_of_le (Nat.lt_of_lt_of_le hP.2 HBX.out.size) (Nat.le_of_eq hsY.symm)
end Go.Proofs.YtdbohojncbeajaaGreat.J5

namespace Go.Proofs.YtdbohojncbeajaaGreat.V4
open Go.RowKit Go.Shelf
open C3 (Tk In belAl)

attribute [local go_sem] Oper.semAt_some

/-- The twos whose second one stands at place i. -/
def twosAt (l : List Ck) (i : Nat) : List (Ck × Ck) := match l[i]? with
  | some b => (l.take i).map fun a => (a, b)
  | none => []
/-- .. ahead of place i. -/
def twosTo (l : List Ck) (i : Nat) : List (Ck × Ck) := (List.range i).flatMap (twosAt l)

theorem twosTo_succ (l : List Ck) (i : Nat) : twosTo l (i + 1) = twosTo l i ++ twosAt l i := by unfold twosTo; rw [List.range_succ, List.flatMap_append]; simp
theorem twosTo_pre (l : List Ck) {i m : Nat} (h : i ≤ m) : twosTo l i <+: twosTo l m := by
  induction m with
  | zero => rw [show i = 0 by omega]; exact List.prefix_rfl
  | succ m ih =>
    by_cases h1 : i ≤ m
    · rw [twosTo_succ]; exact (ih h1).trans (List.prefix_append _ _)
    · rw [show i = m + 1 by omega]; exact List.prefix_rfl
theorem twosAt_len {l : List Ck} {i : Nat} (h : i < l.length) : (twosAt l i).length = i := by
  unfold twosAt
  rw [List.getElem?_eq_getElem h]
  simp; omega
theorem twos_at {l : List Ck} {i j : Nat} {a b : Ck} (hb : l[i]? = some b) (ha : l[j]? = some a) (hj : j < i) : (twosTo l l.length)[(twosTo l i).length + j]? = some (a, b) := by
  have hi := (List.getElem?_eq_some_iff.1 hb).1
  obtain ⟨r, hr⟩ := twosTo_pre l (show i + 1 ≤ l.length by omega)
  rw [← hr, twosTo_succ, List.append_assoc, List.getElem?_append_right (by omega), Nat.add_sub_cancel_left, List.getElem?_append_left (by rw [twosAt_len hi]; exact hj)]
  unfold twosAt
  rw [hb]
  simp only [List.getElem?_map]
  rw [List.getElem?_take_of_lt hj, ha]
  rfl
theorem twosTo_lt {l : List Ck} {i j : Nat} (hi : i < l.length) (hj : j < i) : (twosTo l i).length + j < (twosTo l l.length).length := by
  obtain ⟨r, hr⟩ := twosTo_pre l (show i + 1 ≤ l.length by omega)
  rw [← hr, twosTo_succ, List.length_append, List.length_append, twosAt_len hi]
  omega

def encTw (x : Ck × Ck) : Array Value := #[x.1.v, x.2.v]

set_option maxHeartbeats 400000 in
theorem twos_any (A : Option Addr) (c : Nat) (l : List Ck) (w : World) : Calls Tryz.prog 113 #[.slice A l.length c] w fun e w' =>
    e = .returned (.func (.func 129) #[] #[.pointer (some ⟨w.heap.size, 0, none⟩)]) ∧ w.alloc (.cells #[.slice A l.length c] 26) = w' := by
  go_enter Tryz.func113, Tryz.ntmps113
  go_wp2_with fail
  go_ret
  exact ⟨rfl, rfl⟩

set_option maxRecDepth 100000 in
set_option maxHeartbeats 1000000 in
theorem twos_seq (Bt D : Nat) (A : Option Addr) (c : Nat) (vs : List Ck) (w : World) (hl : LiesC (Bar D) w A (cellsC vs)) (hcap : vs.length ≤ c) (hctop : c ≤ 9223372036854775807) (hBD : Bt ≠ D) (hBt : w.cell? ⟨Bt, 0, none⟩ = some (.slice A vs.length c)) :
    SeqO Tryz.prog 129 #[.pointer (some ⟨Bt, 0, none⟩)] encTw D (fun _ => True) (twosTo vs vs.length) w := by
  intro l J Jx W hW hJ hJx hY h0
  have hB : W.cell? ⟨Bt, 0, none⟩ = some (.slice A vs.length c) := (hW.cell (p := ⟨Bt, 0, none⟩) (World.block_lt_of_cell? w _ hBt)).trans hBt
  have hlW : LiesC (Bar D) W A (cellsC vs) := hl.kn (B := 0) (KN.of_below hW)
  have HY := Lib.hid hY
  have HL := Lib.hid hlW
  clear hY hJ hJx hBt hl hlW hW
  refine (callsIn_wide (n := 6)).1 (callsIn_of_wp Tryz.func129 rfl trivial ?_ rfl)
  simp only [Tryz.ntmps129, List.size_toArray, List.length_cons, List.length_nil, Nat.reduceAdd, Nat.reduceSub, Array.replicate_succ, Array.replicate_zero, List.push_toArray, List.append_toArray, List.nil_append, List.cons_append]
  gi_wp2_with fail
  gi_loopw [9] (fun iv wr => ∃ (i : Nat), i ≤ vs.length ∧ iv = .int .i64 i ∧ J (twosTo vs i).length wr ∧ KN D W.heap.size W wr) (fun iv _ => vs.length - (intOf iv).toNat)
  case atStart => exact ⟨0, Nat.zero_le _, rfl, h0, KN.refl _ _ _⟩
  case round =>
    obtain ⟨i, hi, rfl, hJr, hkr⟩ := hrel
    clear h0
    by_cases hlt : i < vs.length
    · obtain ⟨x, hx⟩ : ∃ x, vs[i]? = some x := ⟨_, List.getElem?_eq_getElem hlt⟩
      obtain ⟨b, off, rfl, hb, c0⟩ := clock_at HL.out hx
      replace c0 := hkr.cell hb c0
      have hbb := World.block_lt_of_cell? wr _ c0
      simp only at hbb
      have HX := Lib.hid hx
      have hB2 := hkr.cell hBD hB
      clear hx
      obtain ⟨xA, xc, xl⟩ := x
      simp only [Ck.v] at c0
      gi_wp2_with fail
      clear c0 hB2
      gi_loopw [18] (fun jv wj => ∃ (j : Nat), j ≤ i ∧ jv = .int .i64 j ∧ J ((twosTo vs i).length + j) wj ∧ KN D W.heap.size W wj) (fun jv _ => i - (intOf jv).toNat)
      case atStart => exact ⟨0, Nat.zero_le _, rfl, hJr, hkr⟩
      case round =>
        obtain ⟨j, hj, rfl, hJj, hkj⟩ := hrel
        clear hJr hkr
        by_cases hjl : j < i
        · obtain ⟨y, hy0⟩ : ∃ y, vs[j]? = some y := ⟨_, List.getElem?_eq_getElem (by omega)⟩
          obtain ⟨b2, off2, hA2, -, d0⟩ := clock_at HL.out hy0
          cases hA2
          replace d0 := hkj.cell hb d0
          have hbj := World.block_lt_of_cell? _ _ d0
          simp only at hbj
          obtain ⟨fn, tmps, assign, body, hy, hR⟩ := yield_any (m' := 5) (HY.out _ _ _ (twos_at HX.out hy0 hjl) hJj hkj.size)
          unfold encTw at hy
          clear hy0
          obtain ⟨yA, yc, yl⟩ := y
          simp only [Ck.v] at hy d0
          gi_wp2_with fail
          refine hR.mono ?_
          clear hR hy d0
          rintro e W5 (⟨rfl, hJ5, hk5, -⟩ | ⟨rfl, hJx5, -⟩)
          · have hk6 : KN D W.heap.size W W5 := hkj.trans hk5
            clear hk5 hkj hJj
            gi_wp2_with fail
            go_roundw
            case rel => exact ⟨j + 1, by omega, by go_num, hJ5, hk6⟩
            case measure => simp [intOf]; omega
          · gi_wp2_with fail
            refine bodyPost_ret (results_none rfl _ _ _) rfl ?_
            exact ⟨⟨_, rfl⟩, .inr ⟨_, twosTo_lt hlt hjl, hJx5⟩⟩
        · have hje : j = i := by omega
          have hJ6 := hJj
          rw [hje, show (twosTo vs i).length + i = (twosTo vs (i + 1)).length by rw [twosTo_succ, List.length_append, twosAt_len hlt]] at hJ6
          clear hje hJj
          gi_wp2_with fail
          go_roundw
          case rel => exact ⟨i + 1, by omega, by go_num, hJ6, hkj⟩
          case measure => simp [intOf]; omega
    · gi_wp2_with fail
      go_end0
      have hke : i = vs.length := by omega
      exact ⟨⟨_, rfl⟩, .inl (hke ▸ hJr)⟩
end Go.Proofs.YtdbohojncbeajaaGreat.V4
