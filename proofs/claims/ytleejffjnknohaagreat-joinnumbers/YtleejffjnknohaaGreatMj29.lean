/- What rows.With, rows.Both, rows.Without and rows.Within do, of rows that rise. No condition but that the slices read as strings that rise, at most 400000. What rows.Both does, of rows that rise: its answer lies in new memory. No condition but that the slices read as strings that rise, at most 300000. -/
import Derived.Test.YtleejffjnknohaaGreatMj28
namespace Go.Proofs.YtleejffjnknohaaGreat.R1
open Go.RowKit Go.Shelf

attribute [local go_sem] Oper.semAt_some

set_option maxHeartbeats 1000000 in
theorem beside_any (w : World) (A B : Option Addr) (n m c d : Nat) :
    Calls Tryz.prog 90 #[.slice A n c, .slice B m d] w fun e w' => e = .returned (.func (.func 121) #[] #[.pointer (some ⟨w.heap.size, 0, none⟩), .pointer (some ⟨w.heap.size + 1, 0, none⟩)]) ∧
      (w.alloc (.cells #[.slice A n c] 102)).alloc (.cells #[.slice B m d] 102) = w' := by
  go_enter Tryz.func90, Tryz.ntmps90
  go_wp2
  go_ret
  exact ⟨rfl, rfl⟩

/-- How a pair is handed to the loop. -/
def encP (x : Str × Int) : Array Value := #[.string (S x.1), .int .i64 x.2]

theorem beside_stops (n : Nat) (Ba Bb n₀ : Nat) (A B : Option Addr) (c d : Nat) (xs ys : List Str) (w : World)
    (hn₀ : n₀ ≤ w.heap.size) (hBa : Ba < w.heap.size) (hBb : Bb < w.heap.size) (hca : w.cell? ⟨Ba, 0, none⟩ = some (.slice A xs.length c)) (hcb : w.cell? ⟨Bb, 0, none⟩ = some (.slice B ys.length d))
    (hc : xs.length ≤ c) (hd : ys.length ≤ d) (hcm : c ≤ maxLen) (hdm : d ≤ maxLen) (hl : Lies0 n₀ w A xs) (hm : Lies0 n₀ w B ys) :
    SeqStopsK Fence.wide n Tryz.prog 121 #[.pointer (some ⟨Ba, 0, none⟩), .pointer (some ⟨Bb, 0, none⟩)] encP (Below n₀) (fun zs => zs = be xs ys) (fun pre => pre <+: be xs ys) (xs.length + ys.length) w :=
  fun l J Jx W hW hJ _ hY h0 =>
    beside1_in n l Ba Bb n₀ A B c d xs ys J Jx W hJ hY (Nat.le_trans hn₀ hW.size) ((hW.cell (p := ⟨Ba, 0, none⟩) hBa).trans hca) ((hW.cell (p := ⟨Bb, 0, none⟩) hBb).trans hcb) hc hd hcm hdm (hl.below (hW.mono hn₀)) (hm.below (hW.mono hn₀)) h0

/-- The cells of a new row of empty strings. -/
def madeStr (n : Nat) : Array Value := madeCells #[.string { data := #[] }] n
theorem size_madeStr (n : Nat) : (madeStr n).size = n := size_madeCells _ _

theorem run_make0 (W : World) (t : TypeId) (ht : Tryz.prog.underlying t = some (.slice 9)) (m : Nat) (k : Int) (hk : k = m) (hm : m ≤ 1000000) :
    (Instr.makeSlice t (.int .i64 0) (.int .i64 k)).run Tryz.prog W = .ok (.slice (some ⟨W.heap.size, 0, none⟩) 0 m) (W.alloc (.cells (madeStr m) 9)) := by
  subst hk
  obtain ⟨i0, hi, hz0, hz1, hz2⟩ := info_parts Tryz.infoStr
  have hr := run_make (P := Tryz.prog) W t _ i0 _ ht hi hz0 .i64 .i64 0 m (Int.le_refl _) (by omega) (by rw [hz2]; omega) (by omega)
  simp only [Int.toNat_zero, Int.toNat_natCast, hz1, Nat.mul_one] at hr
  exact hr

/-- A call that answers the strings ys in new memory, and leaves all that was there. -/
def RetO (w : World) (ys : List Str) (e : Ending) (w' : World) : Prop := ∃ v, e = .returned v ∧ Own w' w.heap.size v ys ∧ Below w.heap.size w w'

set_option maxRecDepth 100000 in
set_option maxHeartbeats 2000000 in
theorem with_new (A B : Option Addr) (c d : Nat) (xs ys : List Str) (w : World) (hl : Lies w A xs) (hm : Lies w B ys) (hc : xs.length ≤ c) (hd : ys.length ≤ d) (hcm : c ≤ maxLen) (hdm : d ≤ maxLen) (hnx : xs.length ≤ 400000) (hny : ys.length ≤ 400000) :
    Calls Tryz.prog 62 #[.slice A xs.length c, .slice B ys.length d] w (RetO w (keysL (be xs ys))) := by
  have hmk : ∀ W : World, (Instr.makeSlice 102 (.int .i64 0) (.int .i64 ((xs.length : Int) + ys.length))).run Tryz.prog W = .ok (.slice (some ⟨W.heap.size, 0, none⟩) 0 (xs.length + ys.length)) (W.alloc (.cells (madeStr (xs.length + ys.length)) 9)) :=
    fun W => run_make0 W _ Tryz.underlying102 (xs.length + ys.length) _ (by omega) (by omega)
  refine (callsIn_wide (n := 6)).1 ?_
  refine callsIn_of_wp_marks Tryz.func62 rfl trivial ?_ rfl
  simp only [Tryz.ntmps62, List.size_toArray, List.length_cons, List.length_nil, Nat.reduceAdd, Nat.reduceSub, Array.replicate_succ, Array.replicate_zero, List.push_toArray, List.append_toArray, List.nil_append, List.cons_append]
  gi_wp2_with fail
  refine ⟨trivial, (callsIn_wide.2 (beside_any _ A B xs.length ys.length c d)).mono ?_⟩
  rintro e w' ⟨rfl, rfl⟩
  gi_wp2
  have hB0 : Below w.heap.size w ((((w.alloc (.cells (madeStr (xs.length + ys.length)) 9)).alloc (.cells #[.slice (some ⟨w.heap.size, 0, none⟩) 0 (xs.length + ys.length)] 102)).alloc (.cells #[.slice A xs.length c] 102)).alloc (.cells #[.slice B ys.length d] 102)) := ((((Below.refl _ w).alloc (Nat.le_refl _) _).alloc (by simp) _).alloc (by simp; omega) _).alloc (by simp; omega) _
  have hsz : ((((w.alloc (.cells (madeStr (xs.length + ys.length)) 9)).alloc (.cells #[.slice (some ⟨w.heap.size, 0, none⟩) 0 (xs.length + ys.length)] 102)).alloc (.cells #[.slice A xs.length c] 102)).alloc (.cells #[.slice B ys.length d] 102)).heap.size = w.heap.size + 4 := by simp
  have own0 : Own ((((w.alloc (.cells (madeStr (xs.length + ys.length)) 9)).alloc (.cells #[.slice (some ⟨w.heap.size, 0, none⟩) 0 (xs.length + ys.length)] 102)).alloc (.cells #[.slice A xs.length c] 102)).alloc (.cells #[.slice B ys.length d] 102)) w.heap.size (.slice (some ⟨w.heap.size, 0, none⟩) 0 (xs.length + ys.length)) [] :=
    (((World.ownsRow_made w (madeStr (xs.length + ys.length)) (xs.length + ys.length) (Nat.le_refl _) (by unfold maxLen; omega) (by rw [size_madeStr]; omega)).alloc _).alloc _).alloc _
  have bO : Boxed ((((w.alloc (.cells (madeStr (xs.length + ys.length)) 9)).alloc (.cells #[.slice (some ⟨w.heap.size, 0, none⟩) 0 (xs.length + ys.length)] 102)).alloc (.cells #[.slice A xs.length c] 102)).alloc (.cells #[.slice B ys.length d] 102)) (w.heap.size + 1) 102 (.slice (some ⟨w.heap.size, 0, none⟩) 0 (xs.length + ys.length)) := by
    have := Boxed.new (w.alloc (.cells (madeStr (xs.length + ys.length)) 9)) 102 (.slice (some ⟨w.heap.size, 0, none⟩) 0 (xs.length + ys.length))
    rw [World.size_alloc] at this
    exact (this.alloc _).alloc _
  have bA : Boxed ((((w.alloc (.cells (madeStr (xs.length + ys.length)) 9)).alloc (.cells #[.slice (some ⟨w.heap.size, 0, none⟩) 0 (xs.length + ys.length)] 102)).alloc (.cells #[.slice A xs.length c] 102)).alloc (.cells #[.slice B ys.length d] 102)) (w.heap.size + 1 + 1) 102 (.slice A xs.length c) := by
    have := Boxed.new ((w.alloc (.cells (madeStr (xs.length + ys.length)) 9)).alloc (.cells #[.slice (some ⟨w.heap.size, 0, none⟩) 0 (xs.length + ys.length)] 102)) 102 (.slice A xs.length c)
    rw [World.size_alloc, World.size_alloc] at this
    exact this.alloc _
  have bB : Boxed ((((w.alloc (.cells (madeStr (xs.length + ys.length)) 9)).alloc (.cells #[.slice (some ⟨w.heap.size, 0, none⟩) 0 (xs.length + ys.length)] 102)).alloc (.cells #[.slice A xs.length c] 102)).alloc (.cells #[.slice B ys.length d] 102)) (w.heap.size + 1 + 1 + 1) 102 (.slice B ys.length d) := by
    have := Boxed.new (((w.alloc (.cells (madeStr (xs.length + ys.length)) 9)).alloc (.cells #[.slice (some ⟨w.heap.size, 0, none⟩) 0 (xs.length + ys.length)] 102)).alloc (.cells #[.slice A xs.length c] 102)) 102 (.slice B ys.length d)
    rw [World.size_alloc, World.size_alloc, World.size_alloc] at this
    exact this
  generalize ((((w.alloc (.cells (madeStr (xs.length + ys.length)) 9)).alloc (.cells #[.slice (some ⟨w.heap.size, 0, none⟩) 0 (xs.length + ys.length)] 102)).alloc (.cells #[.slice A xs.length c] 102)).alloc (.cells #[.slice B ys.length d] 102)) = W0 at *
  obtain ⟨i0, hi, hz0, hz1, hz2⟩ := info_parts Tryz.infoStr
  refine wpIn_rangeFunc_ownG rfl (by omega) (gf := 121) (lb := #[.pointer (some ⟨w.heap.size + 1 + 1, 0, none⟩), .pointer (some ⟨w.heap.size + 1 + 1 + 1, 0, none⟩)]) rfl trivial (enters_of Tryz.func121 (by kernel_rfl) rfl)
    (beside_stops 5 (w.heap.size + 1 + 1) (w.heap.size + 1 + 1 + 1) w.heap.size A B c d xs ys W0 (by omega) (by omega) (by omega) bA.cell bB.cell hc hd hcm hdm ((Lies.zero hl).below hB0) ((Lies.zero hm).below hB0)) belowK_t (belowK_b (by omega)) (Below.refl _ _) (fun _ => rfl)
    (fun (pre : List (Str × Int)) W => (∃ v, Boxed W (w.heap.size + 1) 102 v ∧ W.ownsRow w.heap.size 9 1 v (keysL pre).length (cellsOf (keysL pre)) ∧ True) ∧ Below w.heap.size w W)
    (fun _ _ _ => False)
    (OwnFrom.and (Own.from (holdsRow_own w.heap.size (w.heap.size + 1) 102 9 1 (fun (pre : List (Str × Int)) => (keysL pre).length) (fun (pre : List (Str × Int)) => cellsOf (keysL pre)) (fun _ _ => True)) _) (ownFrom_below (Nat.le_refl _) (by omega)))
    (fun _ _ _ _ _ hs _ _ => hs)
    ⟨⟨_, bO, own0, trivial⟩, hB0⟩
    (fun x => { tmps := #[.slice A xs.length c, .slice B ys.length d, undef, undef, .slice none 0 0, .pointer (some ⟨w.heap.size + 1, 0, none⟩), .string (S x.1), .slice A xs.length c, .int .i64 xs.length, .slice B ys.length d, .int .i64 ys.length, .int .i64 ((xs.length : Int) + ys.length), .slice (some ⟨w.heap.size, 0, none⟩) 0 (xs.length + ys.length), .slice A xs.length c, .slice B ys.length d, .func (.func 121) #[] #[.pointer (some ⟨w.heap.size + 1 + 1, 0, none⟩), .pointer (some ⟨w.heap.size + 1 + 1 + 1, 0, none⟩)], .string (S x.1), .int .i64 x.2, undef, undef, undef, undef, undef], defers := [] }) ?assign ?body ?done ?stop
  case assign =>
    intro l x W K hK
    unfold encP
    gi_wp2
    exact hK
  case body =>
    rintro l pre x W ⟨⟨v, hv, hrow, -⟩, hB⟩ hlt
    have hcl := hv.cell
    have hpl := keysL_len pre
    have HR := Lib.hid hrow
    have hp2 : (keysL pre).length < 900000 := by omega
    clear hrow hpl
    gi_wp2_with (gi_at_builtin; refine wpListIn_append_own _ rfl _ _ 102 rfl w.heap.size 9 i0 (.string { data := #[] }) 1 16 Tryz.underlying102 hi hz0 hz1 hz2 rfl (by decide) _ _ _ rfl (HR.out.alloc _) ⟨W.heap.size, 0, none⟩ 1 1 [.string (S x.1)] rfl rfl (cell_one_new _ _ _) (by simp [Value.oneCell']) (by unfold maxLen; omega) (by omega) (by have := hB.size; simp; omega) ?_; intro v' w1 hown' hgrow _; obtain ⟨g', cap', rfl⟩ := ownsRow_succ hown'; obtain ⟨hv1, hv2, hr2, hk2, hb2⟩ := hv.appended (by decide) HR.out hB.size (by omega) hown' hgrow; have hc1 := hv1.cell; have hf1 := hv1.frozen)
    exact ⟨hk2.from _, hb2, ⟨_, hv2, by rw [keysL_snoc]; exact own_snoc hr2, trivial⟩, hB.trans hb2⟩
  case done =>
    rintro D zs W hD rfl ⟨⟨v, hv, hrow, -⟩, hB⟩ hK
    have hcl := hv.cell
    gi_wp2
    refine ⟨by simp, .inl ⟨_, _, rfl, run_takeDeferred hK, ?_⟩⟩
    refine ⟨_, results_tmp rfl _ _ _, ?_⟩
    exact ⟨v, rfl, ownsRow_putObj hrow _ hK rfl, hB.trans (belowK_b (w := w) (Nat.le_refl _) W D _ _ (by omega) hK rfl rfl)⟩
  case stop =>
    rintro D c pre W _ _ h _
    exact h.elim

theorem with_any (A B : Option Addr) (c d : Nat) (xs ys : List Str) (w : World) (hl : Lies w A xs) (hm : Lies w B ys) (hc : xs.length ≤ c) (hd : ys.length ≤ d) (hcm : c ≤ maxLen) (hdm : d ≤ maxLen) (hnx : xs.length ≤ 400000) (hny : ys.length ≤ 400000) :
    Calls Tryz.prog 62 #[.slice A xs.length c, .slice B ys.length d] w (RetL w (keysL (be xs ys))) :=
  (with_new A B c d xs ys w hl hm hc hd hcm hdm hnx hny).mono fun _ _ ⟨_, h1, h2, h3⟩ => h1 ▸ retL_of_own h2 rfl h3
end Go.Proofs.YtleejffjnknohaaGreat.R1

namespace Go.Proofs.YtleejffjnknohaaGreat.R1
open Go.RowKit

set_option maxHeartbeats 400000 in
theorem Both_new (A B : Option Addr) (c d : Nat) (xs ys : List Str) (w : World) (hl : Lies w A xs) (hm : Lies w B ys) (hs : Srt xs) (hs' : Srt ys) (hc : xs.length ≤ c) (hd : ys.length ≤ d) (hcm : c ≤ maxLen) (hdm : d ≤ maxLen) (hn : xs.length ≤ 300000) (hn' : ys.length ≤ 300000) :
    Calls Tryz.prog 42 #[.slice A xs.length c, .slice B ys.length d] w (RetO w (bothL xs ys)) := by
  have HE : Hid (keysL (be xs ys) = bothL xs ys) := be_both hs hs'
  clear hs hs'
  go_enter Tryz.func42, Tryz.ntmps42
  go_wp2_with fail
  refine (with_new A B c d xs ys w hl hm hc hd hcm hdm (by omega) (by omega)).mono ?_
  rintro e w' hr
  rw [HE.out] at hr
  obtain ⟨v, rfl, h1, h2⟩ := hr
  go_wp2
  go_ret
  exact ⟨v, rfl, h1, h2⟩
end Go.Proofs.YtleejffjnknohaaGreat.R1
