/- What without and within do, of two rows. No condition but that the slices read as strings, at most 400000. -/
import Derived.Test.YtmemagokddfohaaWith
namespace Go.Proofs.Ytmemagokddfohaa
open Go.RowKit Go.Shelf

attribute [local go_sem] Oper.semAt_some

theorem only_yes (pre : List (Str × Int)) {x : Str × Int} (h : x.2 = 0) : onlyL (pre ++ [x]) = onlyL pre ++ [x.1] := by rw [onlyL_snoc, if_pos h]
theorem only_no (pre : List (Str × Int)) {x : Str × Int} (h : x.2 ≠ 0) : onlyL (pre ++ [x]) = onlyL pre := by rw [onlyL_snoc, if_neg h, List.append_nil]

set_option maxRecDepth 100000 in
set_option maxHeartbeats 2000000 in
theorem without_any (A B : Option Addr) (c d : Nat) (xs ys : List Str) (w : World) (hl : Lies w A xs) (hm : Lies w B ys) (hc : xs.length ≤ c) (hd : ys.length ≤ d) (hcm : c ≤ maxLen) (hdm : d ≤ maxLen) (hnx : xs.length ≤ 400000) (hny : ys.length ≤ 400000) :
    Calls Try.prog 25 #[.slice A xs.length c, .slice B ys.length d] w (RetL w (onlyL (be xs ys))) := by
  have hmk : ∀ W : World, (Instr.makeSlice 32 (.int .i64 0) (.int .i64 (xs.length : Int))).run Try.prog W = .ok (.slice (some ⟨W.heap.size, 0, none⟩) 0 xs.length) (W.alloc (.cells (madeStr xs.length) 9)) :=
    fun W => run_make0 W _ Try.underlying32 xs.length _ rfl (by omega)
  refine (callsIn_wide (n := 6)).1 ?_
  refine callsIn_of_wp_marks Try.func25 rfl trivial ?_ rfl
  simp only [Try.ntmps25, List.size_toArray, List.length_cons, List.length_nil, Nat.reduceAdd, Nat.reduceSub, Array.replicate_succ, Array.replicate_zero, List.push_toArray, List.append_toArray, List.nil_append, List.cons_append]
  gi_wp2_with fail
  refine ⟨trivial, (callsIn_wide.2 (beside_any _ A B xs.length ys.length c d)).mono ?_⟩
  rintro e w' ⟨rfl, rfl⟩
  gi_wp2
  have hB0 : Below w.heap.size w ((((w.alloc (.cells (madeStr xs.length) 9)).alloc (.cells #[.slice (some ⟨w.heap.size, 0, none⟩) 0 xs.length] 32)).alloc (.cells #[.slice A xs.length c] 32)).alloc (.cells #[.slice B ys.length d] 32)) := ((((Below.refl _ w).alloc (Nat.le_refl _) _).alloc (by simp) _).alloc (by simp; omega) _).alloc (by simp; omega) _
  have hsz : ((((w.alloc (.cells (madeStr xs.length) 9)).alloc (.cells #[.slice (some ⟨w.heap.size, 0, none⟩) 0 xs.length] 32)).alloc (.cells #[.slice A xs.length c] 32)).alloc (.cells #[.slice B ys.length d] 32)).heap.size = w.heap.size + 4 := by simp
  have own0 : Own ((((w.alloc (.cells (madeStr xs.length) 9)).alloc (.cells #[.slice (some ⟨w.heap.size, 0, none⟩) 0 xs.length] 32)).alloc (.cells #[.slice A xs.length c] 32)).alloc (.cells #[.slice B ys.length d] 32)) w.heap.size (.slice (some ⟨w.heap.size, 0, none⟩) 0 xs.length) [] :=
    (((World.ownsRow_made w (madeStr xs.length) xs.length (Nat.le_refl _) (by unfold maxLen; omega) (by rw [size_madeStr]; omega)).alloc _).alloc _).alloc _
  have bO : Boxed ((((w.alloc (.cells (madeStr xs.length) 9)).alloc (.cells #[.slice (some ⟨w.heap.size, 0, none⟩) 0 xs.length] 32)).alloc (.cells #[.slice A xs.length c] 32)).alloc (.cells #[.slice B ys.length d] 32)) (w.heap.size + 1) 32 (.slice (some ⟨w.heap.size, 0, none⟩) 0 xs.length) := by
    have := Boxed.new (w.alloc (.cells (madeStr xs.length) 9)) 32 (.slice (some ⟨w.heap.size, 0, none⟩) 0 xs.length)
    rw [World.size_alloc] at this
    exact (this.alloc _).alloc _
  have bA : Boxed ((((w.alloc (.cells (madeStr xs.length) 9)).alloc (.cells #[.slice (some ⟨w.heap.size, 0, none⟩) 0 xs.length] 32)).alloc (.cells #[.slice A xs.length c] 32)).alloc (.cells #[.slice B ys.length d] 32)) (w.heap.size + 1 + 1) 32 (.slice A xs.length c) := by
    have := Boxed.new ((w.alloc (.cells (madeStr xs.length) 9)).alloc (.cells #[.slice (some ⟨w.heap.size, 0, none⟩) 0 xs.length] 32)) 32 (.slice A xs.length c)
    rw [World.size_alloc, World.size_alloc] at this
    exact this.alloc _
  have bB : Boxed ((((w.alloc (.cells (madeStr xs.length) 9)).alloc (.cells #[.slice (some ⟨w.heap.size, 0, none⟩) 0 xs.length] 32)).alloc (.cells #[.slice A xs.length c] 32)).alloc (.cells #[.slice B ys.length d] 32)) (w.heap.size + 1 + 1 + 1) 32 (.slice B ys.length d) := by
    have := Boxed.new (((w.alloc (.cells (madeStr xs.length) 9)).alloc (.cells #[.slice (some ⟨w.heap.size, 0, none⟩) 0 xs.length] 32)).alloc (.cells #[.slice A xs.length c] 32)) 32 (.slice B ys.length d)
    rw [World.size_alloc, World.size_alloc, World.size_alloc] at this
    exact this
  generalize ((((w.alloc (.cells (madeStr xs.length) 9)).alloc (.cells #[.slice (some ⟨w.heap.size, 0, none⟩) 0 xs.length] 32)).alloc (.cells #[.slice A xs.length c] 32)).alloc (.cells #[.slice B ys.length d] 32)) = W0 at *
  obtain ⟨i0, hi, hz0, hz1, hz2⟩ := info_parts Try.infoStr
  refine wpIn_rangeFunc_ownG rfl (by omega) (gf := 36) (lb := #[.pointer (some ⟨w.heap.size + 1 + 1, 0, none⟩), .pointer (some ⟨w.heap.size + 1 + 1 + 1, 0, none⟩)]) rfl trivial (enters_of Try.func36 (by kernel_rfl) rfl)
    (beside_stops 5 (w.heap.size + 1 + 1) (w.heap.size + 1 + 1 + 1) w.heap.size A B c d xs ys W0 (by omega) (by omega) (by omega) bA.cell bB.cell hc hd hcm hdm (hl.zero.below hB0) (hm.zero.below hB0)) belowK_t (belowK_b (by omega)) (Below.refl _ _) (fun _ => rfl)
    (fun (pre : List (Str × Int)) W => (∃ v, Boxed W (w.heap.size + 1) 32 v ∧ W.ownsRow w.heap.size 9 1 v (onlyL pre).length (cellsOf (onlyL pre)) ∧ True) ∧ Below w.heap.size w W)
    (fun _ _ _ => False)
    (OwnFrom.and (Own.from (holdsRow_own w.heap.size (w.heap.size + 1) 32 9 1 (fun (pre : List (Str × Int)) => (onlyL pre).length) (fun (pre : List (Str × Int)) => cellsOf (onlyL pre)) (fun _ _ => True)) _) (ownFrom_below (Nat.le_refl _) (by omega)))
    (fun _ _ _ _ _ hs _ _ => hs)
    ⟨⟨_, bO, own0, trivial⟩, hB0⟩
    (fun x => { tmps := #[.slice A xs.length c, .slice B ys.length d, undef, undef, .slice none 0 0, .pointer (some ⟨w.heap.size + 1, 0, none⟩), .string (S x.1), .int .i64 x.2, .slice A xs.length c, .int .i64 xs.length, .slice (some ⟨w.heap.size, 0, none⟩) 0 xs.length, .slice A xs.length c, .slice B ys.length d, .func (.func 36) #[] #[.pointer (some ⟨w.heap.size + 1 + 1, 0, none⟩), .pointer (some ⟨w.heap.size + 1 + 1 + 1, 0, none⟩)], .string (S x.1), .int .i64 x.2, undef, undef, undef, undef, undef, undef, undef], defers := [] }) ?assign ?body ?done ?stop
  case assign =>
    intro l x W K hK
    unfold encP
    gi_wp2
    exact hK
  case body =>
    rintro l pre x W ⟨⟨v, hv, hrow, -⟩, hB⟩ hlt
    have hcl := hv.cell
    have hpl := onlyL_len pre
    have HR := Lib.hid hrow
    have hp2 : (onlyL pre).length < 900000 := by omega
    clear hrow hpl
    by_cases hx : x.2 = 0
    · have hb0 : (x.2 == 0) = true := by rw [hx]; rfl
      have HX := Lib.hid hx
      clear hx
      gi_wp2_with (gi_at_builtin; refine wpListIn_append_own _ rfl _ _ 32 rfl w.heap.size 9 i0 (.string { data := #[] }) 1 16 Try.underlying32 hi hz0 hz1 hz2 rfl (by decide) _ _ _ rfl (HR.out.alloc _) ⟨W.heap.size, 0, none⟩ 1 1 [.string (S x.1)] rfl rfl (cell_one_new _ _ _) (by simp [Value.oneCell']) (by unfold maxLen; omega) (by omega) (by have := hB.size; simp; omega) ?_; intro v' w1 hown' hgrow _; obtain ⟨g', cap', rfl⟩ := ownsRow_succ hown'; obtain ⟨hv1, hv2, hr2, hk2, hb2⟩ := hv.appended (by decide) HR.out hB.size (by omega) hown' hgrow; have hc1 := hv1.cell; have hf1 := hv1.frozen)
      exact ⟨hk2.from _, hb2, ⟨_, hv2, by rw [only_yes pre HX.out]; exact own_snoc hr2, trivial⟩, hB.trans hb2⟩
    · have hb0 : (x.2 == 0) = false := beq_eq_false_iff_ne.2 hx
      have HX := Lib.hid hx
      clear hx
      gi_wp2
      exact ⟨KeepsFrom.refl _ _, Below.refl _ _, ⟨v, hv, by rw [only_no pre HX.out]; exact HR.out, trivial⟩, hB⟩
  case done =>
    rintro D zs W hD rfl ⟨⟨v, hv, hrow, -⟩, hB⟩ hK
    have hcl := hv.cell
    gi_wp2
    refine ⟨by simp, .inl ⟨_, _, rfl, run_takeDeferred hK, ?_⟩⟩
    refine ⟨_, results_tmp rfl _ _ _, ?_⟩
    show RetL w (onlyL (be xs ys)) (.returned v) _
    exact retL_of_own (ys := onlyL (be xs ys)) (ownsRow_putObj hrow _ hK rfl) rfl (hB.trans (belowK_b (w := w) (Nat.le_refl _) W D _ _ (by omega) hK rfl rfl))
  case stop =>
    rintro D c pre W _ _ h _
    exact h.elim

set_option maxRecDepth 100000 in
set_option maxHeartbeats 2000000 in
theorem within_any (A B : Option Addr) (c d : Nat) (xs ys : List Str) (w : World) (hl : Lies w A xs) (hm : Lies w B ys) (hc : xs.length ≤ c) (hd : ys.length ≤ d) (hcm : c ≤ maxLen) (hdm : d ≤ maxLen) :
    Calls Try.prog 26 #[.slice A xs.length c, .slice B ys.length d] w (RetV w (.bool (decide (onlyL (be xs ys) = [])))) := by
  refine (callsIn_wide (n := 6)).1 ?_
  refine callsIn_of_wp_marks Try.func26 rfl trivial ?_ rfl
  simp only [Try.ntmps26, List.size_toArray, List.length_cons, List.length_nil, Nat.reduceAdd, Nat.reduceSub, Array.replicate_succ, Array.replicate_zero, List.push_toArray, List.append_toArray, List.nil_append, List.cons_append]
  gi_wp2_with fail
  refine ⟨trivial, (callsIn_wide.2 (beside_any _ A B xs.length ys.length c d)).mono ?_⟩
  rintro e w' ⟨rfl, rfl⟩
  gi_wp2
  have hB0 : Below w.heap.size w (((w.alloc (.cells #[.bool false] 4)).alloc (.cells #[.slice A xs.length c] 32)).alloc (.cells #[.slice B ys.length d] 32)) := (((Below.refl _ w).alloc (Nat.le_refl _) _).alloc (by simp) _).alloc (by simp; omega) _
  have hsz : (((w.alloc (.cells #[.bool false] 4)).alloc (.cells #[.slice A xs.length c] 32)).alloc (.cells #[.slice B ys.length d] 32)).heap.size = w.heap.size + 3 := by simp
  have bO : Boxed (((w.alloc (.cells #[.bool false] 4)).alloc (.cells #[.slice A xs.length c] 32)).alloc (.cells #[.slice B ys.length d] 32)) w.heap.size 4 (.bool false) := ((Boxed.new w 4 (.bool false)).alloc _).alloc _
  have bA : Boxed (((w.alloc (.cells #[.bool false] 4)).alloc (.cells #[.slice A xs.length c] 32)).alloc (.cells #[.slice B ys.length d] 32)) (w.heap.size + 1) 32 (.slice A xs.length c) := by
    have := Boxed.new (w.alloc (.cells #[.bool false] 4)) 32 (.slice A xs.length c)
    rw [World.size_alloc] at this
    exact this.alloc _
  have bB : Boxed (((w.alloc (.cells #[.bool false] 4)).alloc (.cells #[.slice A xs.length c] 32)).alloc (.cells #[.slice B ys.length d] 32)) (w.heap.size + 1 + 1) 32 (.slice B ys.length d) := by
    have := Boxed.new ((w.alloc (.cells #[.bool false] 4)).alloc (.cells #[.slice A xs.length c] 32)) 32 (.slice B ys.length d)
    rw [World.size_alloc, World.size_alloc] at this
    exact this
  generalize (((w.alloc (.cells #[.bool false] 4)).alloc (.cells #[.slice A xs.length c] 32)).alloc (.cells #[.slice B ys.length d] 32)) = W0 at *
  refine wpIn_rangeFunc_ownG rfl (by omega) (gf := 36) (lb := #[.pointer (some ⟨w.heap.size + 1, 0, none⟩), .pointer (some ⟨w.heap.size + 1 + 1, 0, none⟩)]) rfl trivial (enters_of Try.func36 (by kernel_rfl) rfl)
    (beside_stops 5 (w.heap.size + 1) (w.heap.size + 1 + 1) w.heap.size A B c d xs ys W0 (by omega) (by omega) (by omega) bA.cell bB.cell hc hd hcm hdm (hl.zero.below hB0) (hm.zero.below hB0)) belowK_t (belowK_b (by omega)) (Below.refl _ _) (fun _ => rfl)
    (fun (pre : List (Str × Int)) W => (onlyL pre = [] ∧ Boxed W w.heap.size 4 (.bool false)) ∧ Below w.heap.size w W)
    (fun k pre W => (k = .ret ∧ onlyL pre ≠ [] ∧ Boxed W w.heap.size 4 (.bool false)) ∧ Below w.heap.size w W)
    (OwnFrom.and (fun s X Y row hs hg hr => ⟨hs.1, Own.from (boxed_own w.heap.size 4 (fun _ : List (Str × Int) => .bool false)) _ s X Y row hs.2 hg hr⟩) (ownFrom_below (Nat.le_refl _) (by omega)))
    (fun k => OwnFrom.and (fun s X Y row hs hg hr => ⟨hs.1, hs.2.1, Own.from (boxed_own w.heap.size 4 (fun _ : List (Str × Int) => .bool false)) _ s X Y row hs.2.2 hg hr⟩) (ownFrom_below (Nat.le_refl _) (by omega)))
    ⟨⟨rfl, bO⟩, hB0⟩
    (fun x => { tmps := #[.slice A xs.length c, .slice B ys.length d, undef, undef, .pointer (some ⟨w.heap.size, 0, none⟩), undef, .int .i64 x.2, .slice A xs.length c, .slice B ys.length d, .func (.func 36) #[] #[.pointer (some ⟨w.heap.size + 1, 0, none⟩), .pointer (some ⟨w.heap.size + 1 + 1, 0, none⟩)], .string (S x.1), .int .i64 x.2, undef, undef], defers := [] }) ?assign ?body ?done ?stop
  case assign =>
    intro l x W K hK
    unfold encP
    gi_wp2
    exact hK
  case body =>
    rintro l pre x W ⟨⟨hp, hv⟩, hB⟩ hlt
    have hcl := hv.cell
    have hfz := hv.frozen
    have HP := Lib.hid hp
    clear hp
    by_cases hx : x.2 = 0
    · have hb0 : (x.2 == 0) = true := by rw [hx]; rfl
      have HX := Lib.hid hx
      clear hx
      gi_wp2
      exact ⟨(KeepsOthers.setCell _ _ _).from _, ⟨rfl, by rw [only_yes pre HX.out]; simp, hv.set _⟩, hB.setCell (p := ⟨w.heap.size, 0, none⟩) (Nat.le_refl _) _⟩
    · have hb0 : (x.2 == 0) = false := beq_eq_false_iff_ne.2 hx
      have HX := Lib.hid hx
      clear hx
      gi_wp2
      exact ⟨KeepsFrom.refl _ _, Below.refl _ _, ⟨by rw [only_no pre HX.out]; exact HP.out, hv⟩, hB⟩
  case done =>
    rintro D zs W hD rfl ⟨⟨hp, hv⟩, hB⟩ hK
    have hcl := hv.cell
    have hfz := hv.frozen
    have HP := Lib.hid hp
    clear hp
    gi_wp2
    have hK' := (KeepsOthers.setCell W ⟨w.heap.size, 0, none⟩ (.bool true)).same D _ hK rfl
    refine ⟨by simp, .inl ⟨_, _, rfl, run_takeDeferred hK', ?_⟩⟩
    have hc5 := cell_kept (hv.set (.bool true)).cell (grownBy_putObj' _ D (.deferred none)) (fun r e => by cases e; exact ⟨_, hK', rfl⟩)
    refine ⟨.bool true, ?_, ?_, (hB.setCell (p := ⟨w.heap.size, 0, none⟩) (Nat.le_refl _) _).trans (belowK_b (w := w) (Nat.le_refl _) _ D _ _ (by omega) hK' rfl rfl)⟩
    · simp [results, Try.f26, go_sem, hc5]
    · exact ret_bool (decide_eq_true HP.out).symm
  case stop =>
    rintro D k pre W hD hpre ⟨⟨rfl, hp, hv⟩, hB⟩ hK
    have hcl := hv.cell
    have HP := Lib.hid hp
    clear hp
    gi_wp2
    refine ⟨by simp, .inl ⟨_, _, rfl, run_takeDeferred hK, ?_⟩⟩
    have hc5 := cell_kept hv.cell (grownBy_putObj' _ D (.deferred none)) (fun r e => by cases e; exact ⟨_, hK, rfl⟩)
    refine ⟨.bool false, ?_, ?_, hB.trans (belowK_b (w := w) (Nat.le_refl _) W D _ _ (by omega) hK rfl rfl)⟩
    · simp [results, Try.f26, go_sem, hc5]
    · refine ret_bool (decide_eq_false fun h => HP.out ?_).symm
      obtain ⟨r, hr⟩ := hpre
      rw [← hr] at h
      unfold onlyL at h ⊢
      rw [List.filter_append, List.map_append, List.append_eq_nil_iff] at h
      exact h.1
end Go.Proofs.Ytmemagokddfohaa
