/- What the reference's with, JoinClocks answer lies in memory of their own. No condition but that the ticks lie in memory, at most 1000 (100), and that the numbers are not 0. What the reference's Clocks does. No condition but that what it takes lies in memory. What OrderClocks does: it answers true. No condition but that what is handed in lies in memory. A slice of ticks that came in, opened. No condition. What the laws' own helpers, known and of, do. No condition. Texts made of one or two bytes. No condition but that the bytes are bytes. Texts of two letters that rise, and two rows of them that a call makes side by side: plain mathematics, and memory. No condition. -/
import Derived.Test.YtdbohojncbeajaaGreatMo05
import Derived.Test.YtdbohojncbeajaaGreatMo08
import Derived.Test.YtdbohojncbeajaaGreatMo25
import Derived.Test.YtdbohojncbeajaaGreatMo27
import Derived.Test.YtdbohojncbeajaaGreatMo01
import Derived.Deep.SlicePairs
import Derived.ProofKit
import Derived.OpenShut
import Derived.ChangeOld
import Derived.Lib.Strings
import Derived.Test.YtdbohojncbeajaaGreatMo04
namespace Go.Proofs.YtdbohojncbeajaaGreat.C3
open Go.RowKit

end Go.Proofs.YtdbohojncbeajaaGreat.C3

namespace Go.Proofs.YtdbohojncbeajaaGreat.J5
open Go.RowKit Go.Shelf
open C3 (Tk In belAl allocB cellsT)
open S2 (Sc Tr isT)
open V4 (Va Vl Ck isV val_mk er_mk)

/-- A call that answers a value, in memory that was handed in (P), or new. -/
def RetX (P : Nat → Prop) (w : World) (o : Va) (e : Ending) (w' : World) : Prop := ∃ z : Vl, e = .returned z.val ∧ z.er = o ∧ z.Inp (fun b => (P b ∨ w.heap.size ≤ b) ∧ b < w'.heap.size) w' ∧ Below w.heap.size w w'

set_option maxHeartbeats 400000 in
theorem refClocks_any (P : Nat → Prop) (k : Ck) (w : World) (h : k.Inp P w) (hP : ∀ b, P b → b < w.heap.size) :
    Calls Tryz.prog 14 #[k.v] w (RetX P w (if k.l = [] then .zero else .mk 0 0 [] [k.l] [])) := by
  obtain ⟨A, c, l⟩ := k
  unfold Ck.v
  simp only
  by_cases h0 : l = []
  · subst h0
    rw [if_pos rfl]
    simp only [List.length_nil]
    go_enter Tryz.func14, Tryz.ntmps14
    go_wp2_with fail
    refine bodyPost_ret (V4.results_cellV rfl _ _ w.heap.size (.int .u64 0) (.int .u64 0) (.slice none 0 0) (.slice none 0 0) (.slice none 0 0) rfl (by go_simp) (by go_simp) (by go_simp) (by go_simp) (by go_simp)) rfl ?_
    exact ⟨.mk 0 0 none 0 [] none 0 [] none 0 [], rfl, by rw [er_mk]; rfl, V4.inp_zero _ _, belAl (Below.refl _ _)⟩
  · rw [if_neg h0]
    have hg : (((l.length : Nat) : Int) == 0) = false := beq_eq_false_iff_ne.2 (by have := List.length_pos_iff.2 h0; omega)
    have HI := Lib.hid h
    clear h h0
    go_enter Tryz.func14, Tryz.ntmps14
    go_wp2_with fail
    refine bodyPost_ret (V4.results_cellV rfl _ _ w.heap.size (.int .u64 0) (.int .u64 0) (.slice none 0 0) (.slice (some ⟨w.heap.size + 1, 0, none⟩) 1 1) (.slice none 0 0) rfl (by go_simp) (by go_simp) (by go_simp) (by go_simp) (by go_simp)) rfl ?_
    have hX := V4.Bxd.new (W := w.alloc (.cells #[.int .u64 0, .int .u64 0, .slice none 0 0, .slice (some ⟨w.heap.size + 1, 0, none⟩) 1 1, .slice none 0 0] 29)) (cs := #[.slice A l.length c]) (t := 44)
    rw [World.size_alloc] at hX
    have hb : Below w.heap.size w ((w.alloc (.cells #[.int .u64 0, .int .u64 0, .slice none 0 0, .slice (some ⟨w.heap.size + 1, 0, none⟩) 1 1, .slice none 0 0] 29)).alloc (.cells #[.slice A l.length c] 44)) := belAl (belAl (Below.refl _ _))
    refine ⟨.mk 0 0 none 0 [] (some ⟨w.heap.size + 1, 0, none⟩) 1 [⟨A, c, l⟩] none 0 [], rfl, by rw [er_mk]; rfl, ?_, hb⟩
    refine .mk _ _ _ _ _ _ _ _ _ _ _ (by omega) (by omega) .nil (by simp [maxLen]) (by simp) (.inr ⟨w.heap.size + 1, 0, rfl, ⟨.inr (Nat.le_succ _), hX.1⟩, fun i u hu => ?_⟩) (by simp [maxLen]) (fun k hk2 => ?_) .nil (by simp [maxLen]) (by simp)
    · rw [Nat.zero_add]
      exact hX.2 i u (by simpa [V4.cellsC, Ck.v] using hu)
    · rw [List.mem_singleton.1 hk2]
      exact (HI.out.keep fun b hlt => hb.block b (hP b hlt)).mono fun b hlt => ⟨.inl hlt, Nat.lt_of_lt_of_le (hP b hlt) hb.size⟩
end Go.Proofs.YtdbohojncbeajaaGreat.J5

namespace Go.Proofs.YtdbohojncbeajaaGreat.J5
open Go.RowKit Go.Shelf
open C3 (Tk In belAl allocB isC isC_out cmpC underC)
open S2 (Sc Tr isT)
open V4 (Va Vl Ck isV botT Bxd val_mk er_mk scLeaf scLeaf_in mk_inj)

theorem ckIn_of {W : World} {A : Option Addr} {c : Nat} {l : List Tk} (h : In W A c l) (hl : l.length ≤ 1000) : (Ck.mk A c l).Inp (fun b => b < W.heap.size) W := by
  refine ⟨?_, h.cap, h.top, h.nok, by show l.length * 16 ≤ _; omega⟩
  rcases h.lies with h | ⟨b, off, hA, hlt, h⟩
  · subst h; exact .inl rfl
  · refine .inr ⟨b, off, hA, hlt, fun i u hu => ?_⟩
    have key : ∀ (l : List Tk) (o : Nat) (i : Nat) (u : Value), (∀ i x, l[i]? = some x → W.cell? ⟨b, o + i * 2, none⟩ = some (.int .i64 x.k) ∧ W.cell? ⟨b, o + i * 2 + 1, none⟩ = some (.int .u64 x.n)) → (C3.cellsT l)[i]? = some u → W.cell? ⟨b, o + i, none⟩ = some u := fun l => by
      induction l with
      | nil => intro o i u _ h; simp [C3.cellsT] at h
      | cons x l ih =>
        intro o i u hc hu
        have e : C3.cellsT (x :: l) = .int .i64 x.k :: .int .u64 x.n :: C3.cellsT l := rfl
        rw [e] at hu
        have h0 := hc 0 x rfl
        simp only [Nat.zero_mul, Nat.add_zero] at h0
        match i, hu with
        | 0, hu => simp only [List.getElem?_cons_zero, Option.some.injEq] at hu; subst hu; exact h0.1
        | 1, hu => simp only [List.getElem?_cons_succ, List.getElem?_cons_zero, Option.some.injEq] at hu; subst hu; exact h0.2
        | i + 2, hu =>
          simp only [List.getElem?_cons_succ] at hu
          have := ih (o + 2) i u (fun j y hy => by
            have h1 := hc (j + 1) y (by simpa using hy)
            rw [show o + (j + 1) * 2 = o + 2 + j * 2 by omega] at h1
            exact h1) hu
          rw [show o + 2 + i = o + (i + 2) by omega] at this
          exact this
    exact key l off i u h hu
/-- A clock as a value. -/
def clE (l : List Tk) : Va := if l = [] then .zero else .mk 0 0 [] [l] []
theorem ck_clE (l : List Tk) : ckE (clE l) = l := by
  unfold clE
  split
  · rename_i h; subst h; rfl
  · rfl
theorem is_clE {l : List Tk} (h : isC l = true) : isV (.mk 7 []) (clE l) = true := by
  unfold clE
  split
  · exact isV_clock.2 (.inl rfl)
  · rename_i h0; exact isV_clock.2 (.inr ⟨l, rfl, h, h0⟩)
theorem isT_7 : isT 16 (.mk 7 []) = true := by decide
theorem cmpC_N (x y : List Tk) : cmpN (underC x y) (underC y x) = cmpC x y := by
  unfold cmpC
  cases underC x y <;> cases underC y x <;> rfl

set_option maxRecDepth 100000 in
set_option maxHeartbeats 4000000 in
theorem orderClocks_all (A1 : Option Addr) (c1 : Nat) (x : List Tk) (A2 : Option Addr) (c2 : Nat) (y : List Tk) (w : World) (hx : In w A1 c1 x) (hy : In w A2 c2 y) : Calls Tryz.prog 6 #[.slice A1 x.length c1, .slice A2 y.length c2] w (RetV w (.bool true)) := by
  obtain ⟨p1, hp1⟩ : ∃ p, isC x = p := ⟨_, rfl⟩
  obtain ⟨p2, hp2⟩ : ∃ p, isC y = p := ⟨_, rfl⟩
  have HI1 := Lib.hid (fun W (hb : Below w.heap.size w W) => C3.refIs_any A1 c1 x W (hx.later hb))
  have HI2 := Lib.hid (fun W (hb : Below w.heap.size w W) => C3.refIs_any A2 c2 y W (hy.later hb))
  rw [hp1] at HI1
  rw [hp2] at HI2
  have HP := Lib.hid (And.intro hp1 hp2)
  have HXY := Lib.hid (And.intro hx hy)
  clear hp1 hp2 hx hy
  go_enter Tryz.func6, Tryz.ntmps6
  go_wp2_with fail
  refine (known6_any w).mono ?_
  rintro e W0 ⟨rfl, bW0⟩
  have BW0 : Below w.heap.size w W0 := bW0
  go_wp2_with fail
  refine (HI1.out W0 BW0).mono ?_
  clear HI1
  rintro e W1 ⟨rfl, bW1⟩
  have BW1 : Below w.heap.size w W1 := BW0.trans (bW1.mono BW0.size)
  cases p1 with
  | false =>
    go_wp2_with fail
    go_ret
    exact ⟨by simp, BW1⟩
  | true =>
    go_wp2_with fail
    refine (HI2.out W1 BW1).mono ?_
    clear HI2
    rintro e W2 ⟨rfl, bW2⟩
    have BW2 : Below w.heap.size w W2 := BW1.trans (bW2.mono BW1.size)
    cases p2 with
    | false =>
      go_wp2_with fail
      go_ret
      exact ⟨by simp, BW2⟩
    | true =>
      by_cases h1 : (15 : Int) < ((x.length : Nat) : Int)
      · have g1 : decide ((15 : Int) < ((x.length : Nat) : Int)) = true := decide_eq_true h1
        clear h1
        go_wp2_with fail
        go_ret
        exact ⟨by simp, BW2⟩
      have g1 : decide ((15 : Int) < ((x.length : Nat) : Int)) = false := decide_eq_false h1
      have L1 : Hid (x.length ≤ 15) := by show _ ≤ _; omega
      clear h1
      by_cases h2 : (15 : Int) < ((y.length : Nat) : Int)
      · have g2 : decide ((15 : Int) < ((y.length : Nat) : Int)) = true := decide_eq_true h2
        clear h2
        go_wp2_with fail
        go_ret
        exact ⟨by simp, BW2⟩
      have g2 : decide ((15 : Int) < ((y.length : Nat) : Int)) = false := decide_eq_false h2
      have L2 : Hid (y.length ≤ 15) := by show _ ≤ _; omega
      clear h2
      have IX : Hid (In W2 A1 c1 x) := HXY.out.1.later BW2
      have IY : Hid (In W2 A2 c2 y) := HXY.out.2.later BW2
      go_wp2_with fail
      refine (of6_any 7 none 0 0 W2).mono ?_
      rintro e W3 ⟨rfl, bW3⟩
      have BW3 : Below w.heap.size w W3 := BW2.trans (bW3.mono BW2.size)
      have HK1 := Lib.hid (refClocks_any (fun b => b < W3.heap.size) ⟨A1, c1, x⟩ W3 (ckIn_of (IX.out.later bW3) (by have := L1.out; omega)) (fun _ h => h))
      unfold Ck.v at HK1
      simp only at HK1
      go_wp2_with fail
      refine HK1.out.mono ?_
      clear HK1
      rintro e W4 ⟨⟨zn, zm, zsA, zsc, zss, zcA, zcc, zcs, zvA, zvc, zvs⟩, rfl, hze, hzi, bW4⟩
      simp only [val_mk]
      have HZ := Lib.hid (And.intro hze hzi)
      clear hze hzi
      have BW4 : Below w.heap.size w W4 := BW3.trans (bW4.mono BW3.size)
      have HK2 := Lib.hid (refClocks_any (fun b => b < W4.heap.size) ⟨A2, c2, y⟩ W4 (ckIn_of ((IY.out.later bW3).later bW4) (by have := L2.out; omega)) (fun _ h => h))
      unfold Ck.v at HK2
      simp only at HK2
      go_wp2_with fail
      refine HK2.out.mono ?_
      clear HK2
      rintro e W5 ⟨⟨un, um, usA, usc, uss, ucA, ucc, ucs, uvA, uvc, uvs⟩, rfl, hue, hui, bW5⟩
      simp only [val_mk]
      have HU := Lib.hid (And.intro hue hui)
      clear hue hui
      have BW5 : Below w.heap.size w W5 := BW4.trans (bW5.mono BW4.size)
      have HC := Lib.hid (Cmp_by False False.elim (scLeaf 7) (.mk zn zm zsA zsc zss zcA zcc zcs zvA zvc zvs) (.mk un um usA usc uss ucA ucc ucs uvA uvc uvs) W5 (scLeaf_in _ _ _) (V4.Vl.In.later (HZ.out.2.mono fun b h => h.2 : (Vl.mk zn zm zsA zsc zss zcA zcc zcs zvA zvc zvs).In W4) bW5) (HU.out.2.mono fun b h => h.2) (fun _ => .inr (noP_leaf (by decide))) isT_7 (by rw [HZ.out.1]; exact is_clE HP.out.1) (by rw [HU.out.1]; exact is_clE HP.out.2) (underC x y) (underC y x)
        (by rw [show (scLeaf 7).er = .mk 7 [] from rfl, leV_clock, HZ.out.1, HU.out.1]; show underC (ckE (clE x)) (ckE (clE y)) = true ↔ _; rw [ck_clE, ck_clE]) (by rw [show (scLeaf 7).er = .mk 7 [] from rfl, leV_clock, HZ.out.1, HU.out.1]; show underC (ckE (clE y)) (ckE (clE x)) = true ↔ _; rw [ck_clE, ck_clE]))
      rw [cmpC_N] at HC
      obtain ⟨N, hN⟩ : ∃ N, cmpC x y = N := ⟨_, rfl⟩
      have HCM := Lib.hid (fun W (hb : Below W2.heap.size W2 W) => C3.refCmp_any A1 A2 c1 c2 x y W (IX.out.later hb) (IY.out.later hb))
      rw [hN] at HC HCM
      clear hN HZ HU HP
      go_wp2_with fail
      refine HC.out.mono ?_
      clear HC
      rintro e W6 ⟨rfl, bW6⟩
      have BW6 : Below w.heap.size w W6 := BW5.trans (bW6.mono BW5.size)
      have hb26 : Below W2.heap.size W2 W6 := bW3.trans ((bW4.trans ((bW5.trans (bW6.mono bW5.size)).mono bW4.size)).mono bW3.size)
      go_wp2_with fail
      refine (HCM.out W6 hb26).mono ?_
      rintro e W7 ⟨rfl, bW7⟩
      go_wp2_with fail
      go_ret
      exact ⟨by simp, BW6.trans (bW7.mono BW6.size)⟩
end Go.Proofs.YtdbohojncbeajaaGreat.J5

namespace Go.Proofs.YtdbohojncbeajaaGreat.C3
open Go.ChangeShapes Go.WideShapes Go.ChangeAt Go.RowKit Go.Deep

theorem Tryz.cellsInt : Tryz.prog.cellsOf 3 = 1 := by kernel_rfl
theorem Tryz.cellsU64 : Tryz.prog.cellsOf 24 = 1 := by kernel_rfl
theorem Tryz.cellsTick : Tryz.prog.cellsOf 60 = 2 := by kernel_rfl

instance : Inhabited Tk := ⟨⟨0, 0⟩⟩

theorem u64_wf {n : Int} (h : (Lit.int .u64 n).wf = true) : 0 ≤ n ∧ n ≤ 18446744073709551615 := by
  simp [Lit.wf] at h
  have e1 : IntKind.u64.min = 0 := by decide
  have e2 : IntKind.u64.max = 18446744073709551615 := by decide
  omega

theorem open_ticks {H : Type} {enc : TypeId × Value → H} {W : World} {a0 : Option Addr} {len0 cap0 : Nat} {d0 : DataW H} {p0 : List MemPlace}
    (h0 : DataW.Trod enc Tryz.prog W 0 (fun _ => true) true 44 (.slice a0 len0 cap0) d0 p0) : ∃ l : List Tk, l.length = len0 ∧ In W a0 cap0 l := by
  obtain ⟨fuel, hf⟩ := h0
  rcases open_slice_pairs Tryz.underlying44 Tryz.underlying60 Tryz.cellsTick rfl rfl Tryz.cellsInt Tryz.cellsU64 hf with ⟨h1, h2⟩ | ⟨a, len, cap, mm, n, V0, V1, D0, D1, P0, P1, h1, hb, hl, hcm, hmm, h2, hx⟩
  · simp [Value.cells] at h1
    obtain ⟨rfl, rfl, rfl⟩ := h1
    exact ⟨[], rfl, In.nil W⟩
  · simp [Value.cells] at h1
    obtain ⟨rfl, rfl, rfl⟩ := h1
    rw [if_pos rfl] at hmm
    subst hmm
    have each : ∀ i, i < len0 → ∃ t : Tk, V0 i = .int .i64 t.k ∧ V1 i = .int .u64 t.n ∧ 0 ≤ t.n ∧ t.n ≤ 18446744073709551615 := by
      intro i hi
      obtain ⟨-, -, t0, t1⟩ := hx i (by omega)
      obtain ⟨k, hk, -, -⟩ := DataW.trod_int Tryz.underlying3 t0
      obtain ⟨m, hm, -, hw⟩ := DataW.trod_int Tryz.underlying24 t1
      exact ⟨⟨k, m⟩, by simpa using hk, by simpa using hm, u64_wf hw⟩
    obtain ⟨f, hg⟩ := choose_lt each
    refine ⟨(List.range len0).map f, by simp, ?_, by simpa using hl, hcm, ?_⟩
    · by_cases h0 : len0 = 0
      · subst h0; exact .inl rfl
      · obtain ⟨b, off, spot⟩ := a
        have hc0 := (hx 0 (by omega)).1
        have hspot : spot = none := by simpa [Addr.add] using World.cell?_spot hc0
        subst hspot
        have hblt : b < W.heap.size := World.block_lt_of_cell? W _ (by simpa [Addr.add] using hc0)
        refine .inr ⟨b, off, rfl, hblt, fun i x hx' => ?_⟩
        rw [List.getElem?_map] at hx'
        have hi : i < len0 := by
          rcases Nat.lt_or_ge i len0 with h | h
          · exact h
          · rw [List.getElem?_eq_none (by simpa using h)] at hx'; cases hx'
        rw [List.getElem?_range hi] at hx'
        have hxe : f i = x := by simpa using hx'
        obtain ⟨g0, g1, -, -⟩ := hx i (by omega)
        rw [Addr.add_lit] at g0 g1
        obtain ⟨e0, e1, -⟩ := hg i hi
        rw [← hxe, ← e0, ← e1]
        exact ⟨g0, by rw [Nat.add_assoc]; exact g1⟩
    · intro x hx'
      obtain ⟨i, hi, rfl⟩ := List.mem_map.1 hx'
      exact (hg i (List.mem_range.1 hi)).2.2
end Go.Proofs.YtdbohojncbeajaaGreat.C3

namespace Go.Proofs.YtdbohojncbeajaaGreat.J5
open Go.RowKit Go.Shelf
open C3 (Tk belAl allocB)
open S2 (Sc Tr isT)
open V4 (Va Vl Ck isV botT Bxd val_mk er_mk scLeaf scLeaf_in scRow scRow_in vlNum vlNum_in vlTexts vlTexts_in ckOne ckOne_in vlCV vlCV_in mk_inj)

/-- What is in new memory is in memory. -/
theorem inn {P : Nat → Prop} {W : World} {x : Vl} (h : x.Inp (fun b => P b ∧ b < W.heap.size) W) : x.In W := h.mono fun _ h => h.2

end Go.Proofs.YtdbohojncbeajaaGreat.J5

namespace Go.Proofs.YtdbohojncbeajaaGreat.J5
open Go.RowKit Go.Shelf

theorem u_bytes : Tryz.prog.underlying 53 = some (.slice 5) := by kernel_rfl
theorem u_byte : Tryz.prog.underlying 5 = some (.int .u8) := by kernel_rfl
theorem u_str : Tryz.prog.underlying 9 = some .string := by kernel_rfl
/-- A byte. -/
def byt (v : Int) : UInt8 := UInt8.ofNat v.toNat
theorem byt_nat {v : Int} (hv : 0 ≤ v ∧ v ≤ 255) : ((byt v).toNat : Int) = v := by
  unfold byt
  rw [UInt8.toNat_ofNat', Nat.mod_eq_of_lt (by omega)]
  omega
theorem byt_lt {u v : Int} (hu : 0 ≤ u ∧ u ≤ 255) (hv : 0 ≤ v ∧ v ≤ 255) : byt u < byt v ↔ u < v := by
  have h1 := byt_nat hu
  have h2 := byt_nat hv
  rw [UInt8.lt_iff_toNat_lt]
  omega
theorem conv_one (v : Int) (hv : 0 ≤ v ∧ v ≤ 255) (w : World) : (convert 53 9 (.slice (some ⟨w.heap.size, 0, none⟩) 1 1)).run Tryz.prog (w.alloc (.cells #[.int .u8 v] 5)) = .ok (.string (S [byt v])) (w.alloc (.cells #[.int .u8 v] 5)) :=
  run_convert_bytes_back (P := Tryz.prog) (w.alloc (.cells #[.int .u8 v] 5)) 53 9 5 ⟨w.heap.size, 0, none⟩ 1 [byt v] u_bytes u_byte u_str (fun i hi => by
    rw [Addr.add_lit, Nat.zero_add]
    have hi' : i < 1 := hi
    refine V4.alloc_cells i _ ?_
    obtain rfl : i = 0 := by omega
    simp
    exact (byt_nat hv).symm)
end Go.Proofs.YtdbohojncbeajaaGreat.J5

namespace Go.Proofs.YtdbohojncbeajaaGreat.J5
open Go.RowKit Go.Shelf
open C3 (belAl allocB)
open S2 (Tr isT)
open V4 (Va Vl isV shortV)

/-- The texts aa, ab, .. -/
def tn (i : Nat) : Str := [byt (97 + (i : Int) / 26), byt (97 + (i : Int) % 26)]
/-- Texts of two letters that rise, all ahead of the k-th one. -/
structure TS (k : Nat) (xs : List Str) : Prop where
  srt : R1.Srt xs
  lt : ∀ x ∈ xs, x < tn k
  sh : ∀ x ∈ xs, x.length = 2
  len : xs.length ≤ 40
theorem TS.nil : TS 0 [] := ⟨.nil, by simp, by simp, by simp⟩
theorem TS.is {k : Nat} {xs : List Str} (h : TS k xs) : isV (.mk 3 []) (.mk 0 0 xs [] []) = true :=
  isV_set.2 ⟨xs, rfl, h.srt, h.len, List.all_eq_true.2 fun x hx => decide_eq_true (by rw [h.sh x hx]; decide)⟩
theorem Blk.grown {W W' : World} {X : Nat} {t : TypeId} {cs : Array Value} {row : Option Nat} (h : Blk W X t cs) (hg : W.grownBy W' row) (hne : some X ≠ row) : Blk W' X t cs := (hg.block X h.lt hne).trans h
theorem own_set {w : World} {base : Nat} {v : Value} {ys : List Str} (h : R1.Own w base v ys) (X i : Nat) (u : Value) (hX : X < base) : R1.Own (w.setCell ⟨X, i, none⟩ u) base v ys :=
  h.kept (row := some X) ⟨rfl, rfl, rfl, by simp, fun k _ hk => Below.heap_setCell _ _ _ _ (by simpa using hk)⟩ (by
    cases hv : v.ownBlock with
    | none => exact .inl rfl
    | some k => exact .inr (by have := (h.lt hv).1; simp; omega))
/-- A value of texts alone. -/
def vlT (A : Option Addr) (c : Nat) (ss : List Str) : Vl := .mk 0 0 A c ss none 0 [] none 0 []
theorem vlT_in {W : World} {A : Option Addr} {c : Nat} {ss : List Str} (hl : Lies W A ss) (h1 : ss.length ≤ c) (h2 : c ≤ maxLen) (h3 : ss.length ≤ 1000) (h4 : ∀ s ∈ ss, s.length ≤ 1000) : (vlT A c ss).In W := by
  refine .mk _ _ _ _ _ _ _ _ _ _ _ (by omega) (by omega) ?_ ⟨h1, h2, by omega⟩ (fun s hs => by have := h4 s hs; unfold maxLen; omega) .nil (by simp [maxLen]) (by simp) .nil (by simp [maxLen]) (by simp)
  rcases hl with rfl | ⟨b, off, rfl, hb, hc⟩
  · exact .nil
  · refine .inr ⟨b, off, rfl, hb, fun i u hu => ?_⟩
    obtain ⟨x, hx, rfl⟩ := R1.cellsOf_get hu
    exact hc i x hx

/-- Two values of texts in boxes X, X + 1, whose rows are the call's own, each in a block of its own. -/
structure JS (U : World) (va vb : Value) (xs ys : List Str) (W : World) : Prop where
  qa : Blk W U.heap.size 29 #[.int .u64 0, .int .u64 0, va, .slice none 0 0, .slice none 0 0]
  qb : Blk W (U.heap.size + 1) 29 #[.int .u64 0, .int .u64 0, vb, .slice none 0 0, .slice none 0 0]
  oa : R1.Own W (U.heap.size + 2) va xs
  ob : R1.Own W (U.heap.size + 2) vb ys
  ne : ∀ k, va.ownBlock = some k → vb.ownBlock ≠ some k
  bel : Below U.heap.size U W
theorem JS.later {U : World} {va vb : Value} {xs ys : List Str} {W W' : World} (h : JS U va vb xs ys W) (hb : Below W.heap.size W W') : JS U va vb xs ys W' :=
  ⟨h.qa.below hb, h.qb.below hb, h.oa.below hb, h.ob.below hb, h.ne, h.bel.trans (hb.mono h.bel.size)⟩
theorem JS.appB {U : World} {va vb v2 : Value} {xs ys zs : List Str} {W W2 : World} (h : JS U va vb xs ys W) (ho : R1.Own W2 (U.heap.size + 2) v2 zs) (hg : W.grownBy W2 vb.ownBlock) (hat : v2.ownBlock = vb.ownBlock ∨ v2.ownBlock = some W.heap.size) :
    JS U va v2 xs zs (W2.setCell ⟨U.heap.size + 1, 2, none⟩ v2) := by
  have low : ∀ X, X < U.heap.size + 2 → some X ≠ vb.ownBlock := fun X hX e => by have := (h.ob.lt e.symm).1; omega
  refine ⟨(h.qa.grown hg (low _ (by omega))).other (by omega) _ _, (h.qb.grown hg (low _ (by omega))).set 2 v2, own_set (h.oa.kept hg ?_) _ _ _ (by omega), own_set ho _ _ _ (by omega), fun k hk e => ?_, ?_⟩
  · cases hv : va.ownBlock with
    | none => exact .inl rfl
    | some k => exact .inr fun e => h.ne k hv e.symm
  · rcases hat with e2 | e2
    · exact h.ne k hk (e2.symm.trans e)
    · have := (h.oa.lt hk).2
      rw [e] at e2
      have := Option.some.inj e2
      omega
  · exact (h.bel.grown hg h.bel.size fun k hk => by have := (h.ob.lt hk).1; omega).setCell (by simp) _
end Go.Proofs.YtdbohojncbeajaaGreat.J5
