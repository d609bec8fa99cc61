/- What value.siblings does. No condition but that the clocks lie in memory. What value.formed does, of each kind but maps. No condition but that the value lies in memory. What value.right does, given value.stripped and value.formed; value.hollow, value.none. No condition but that the value lies in memory, and that its schema is one. What value.none and value.filled do, value.formed of maps, value.right of all kinds. No condition but that the value lies in memory, and that its schema is one. What value.filled does, value.formed of maps, value.right of all kinds. No condition but that the value lies in memory, and that its schema is one. What the walk over a schema tells: whether it is one, how deep. Plain mathematics. No condition. What value.formed does of maps, value.right of all kinds; value.Is, value.None. No condition but that the value lies in memory, and for right that its schema is one. -/
import Derived.Test.YtdbohojncbeajaaGreatMo18
import Derived.Test.YtdbohojncbeajaaGreatMo07
namespace Go.Proofs.YtdbohojncbeajaaGreat.V4
open Go.RowKit Go.Shelf
open C3 (Tk In isC Asc cmpC belAl)
open S2 (results_cell1)

attribute [local go_sem] Oper.semAt_some

/-- Two clocks, the one in order ahead of the other, neither of which has seen the other. -/
def apartC (x : Ck × Ck) : Bool := aheadC x.1.l x.2.l && decide (cmpC x.1.l x.2.l = 2)
/-- Versions may have these clocks. -/
def sibsC (cs : List Ck) : Bool := decide (cs.length ≤ 40) && (cs.all (fun c => isC c.l) && (twosTo cs cs.length).all apartC)

theorem mem_twos {l : List Ck} {x : Ck × Ck} (h : x ∈ twosTo l l.length) : x.1 ∈ l ∧ x.2 ∈ l := by
  unfold twosTo at h
  obtain ⟨i, _, hi⟩ := List.mem_flatMap.1 h
  unfold twosAt at hi
  split at hi
  · rename_i b hb
    obtain ⟨a, ha, rfl⟩ := List.mem_map.1 hi
    exact ⟨List.mem_of_mem_take ha, List.mem_of_getElem? hb⟩
  · cases hi

theorem isC_asc {l : List Tk} (h : isC l = true) : Asc l ∧ l.length ≤ 1000 := by
  unfold isC at h
  simp at h
  exact ⟨h.2.1, by omega⟩

set_option maxRecDepth 100000 in
set_option maxHeartbeats 1000000 in
theorem siblings_any (A : Option Addr) (c : Nat) (cs : List Ck) (w : World) (hl : LiesC (fun b => b < w.heap.size) w A (cellsC cs)) (hcap : cs.length ≤ c) (hctop : c ≤ maxLen) (hn : cs.length * 24 ≤ 140737488351232) (hck : ∀ k ∈ cs, InC w k) :
    Calls Tryz.prog 84 #[.slice A cs.length c] w (RetV w (.bool (sibsC cs))) := by
  have hct : c ≤ 9223372036854775807 := by unfold maxLen at hctop; omega
  have HL := Lib.hid hl
  have HK := Lib.hid hck
  have HN := Lib.hid hn
  have HC := Lib.hid (And.intro hcap hct)
  clear hl hck hn hctop
  have bR : Boxed (w.alloc (.cells #[.bool false] 4)) w.heap.size 4 (.bool false) := Boxed.new w 4 (.bool false)
  have hB0 : Below w.heap.size w (w.alloc (.cells #[.bool false] 4)) := belAl (Below.refl _ _)
  refine (callsIn_wide (n := 6)).1 (callsIn_of_wp_marks Tryz.func84 rfl trivial ?_ rfl)
  simp only [Tryz.ntmps84, List.size_toArray, List.length_cons, List.length_nil, Nat.reduceAdd, Nat.reduceSub, Array.replicate_succ, Array.replicate_zero, List.push_toArray, List.append_toArray, List.nil_append, List.cons_append]
  by_cases h40 : cs.length ≤ 40
  · have k40 : decide (40 < (cs.length : Int)) = false := decide_eq_false (by omega)
    obtain ⟨q, hq⟩ : ∃ q, (cs.all fun c => isC c.l) = q := ⟨_, rfl⟩
    have HQ := Lib.hid hq
    have HS : Hid (sibsC cs = (q && (twosTo cs cs.length).all apartC)) := by show sibsC cs = _; unfold sibsC; rw [decide_eq_true h40, hq]; rfl
    clear hq h40
    gi_wp2_with fail
    refine ⟨trivial, (callsIn_wide.2 (clocks1_any A c cs _)).mono ?_⟩
    rintro e w1 ⟨rfl, rfl⟩
    obtain ⟨w1, hw1⟩ : ∃ w1, (w.alloc (.cells #[.bool false] 4)).alloc (.cells #[.slice A cs.length c] 26) = w1 := ⟨_, rfl⟩
    have hB1 : Below w.heap.size w w1 := by rw [← hw1]; exact belAl hB0
    have hs1 : w1.heap.size = w.heap.size + 2 := by rw [← hw1]; simp
    have bR1 : Boxed w1 w.heap.size 4 (.bool false) := by rw [← hw1]; exact bR.alloc _
    have cB1 : w1.cell? ⟨w.heap.size + 1, 0, none⟩ = some (.slice A cs.length c) := by
      rw [← hw1]
      have := alloc_cells (w := w.alloc (.cells #[.bool false] 4)) (cs := #[.slice A cs.length c]) (t := 26) 0 _ rfl
      rw [World.size_alloc] at this
      exact this
    gi_wp2_with fail
    clear hw1 bR hB0
    have HE := Lib.hid (every_clock (fun c => isC c.l) cs (fun x _ W hx => C3.Is_any x.A x.c x.l W (Ck.Inp.inn hx)) (fun _ => True) (fun _ _ _ => trivial) 128 #[.pointer (some ⟨w.heap.size + 1, 0, none⟩)] (enters_of Tryz.func128 (by kernel_rfl) rfl) w1
      (fun D w2 hb hD hD2 => clocks1_seq (w.heap.size + 1) D A c cs w2 ((HL.out.below (hB1.trans (hb.mono hB1.size))).mono fun b hb => by unfold Bar; omega) HN.out ((hb.cell (p := ⟨w.heap.size + 1, 0, none⟩) (by simp only; omega)).trans cB1))
      (fun x hx => (HK.out x hx).later hB1))
    refine ⟨trivial, (callsIn_wide.2 HE.out).mono ?_⟩
    clear HE
    rintro e w2 ⟨rfl, hb2⟩
    rw [HQ.out]
    have hB2 : Below w.heap.size w w2 := hB1.trans (hb2.mono hB1.size)
    have hs2 : w.heap.size + 2 ≤ w2.heap.size := by have := hb2.size; omega
    have bR2 : Boxed w2 w.heap.size 4 (.bool false) := (hb2.block _ (by omega)).trans bR1
    clear hb2 bR1 cB1 hB1
    cases q with
    | false =>
      have hcl := bR2.cell
      have hcf := bR2.frozen
      gi_wp2_with fail
      refine ⟨_, results_cell1 rfl rfl _ _ w.heap.size (.bool false) rfl (bR2.set (.bool false)).cell, ?_⟩
      rw [HS.out]
      exact ⟨rfl, hB2.setCell (by simp) _⟩
    | true =>
      gi_wp2_with fail
      refine ⟨trivial, (callsIn_wide.2 (twos_any A c cs _)).mono ?_⟩
      rintro e w3 ⟨rfl, rfl⟩
      obtain ⟨w3, hw3⟩ : ∃ w3, w2.alloc (.cells #[.slice A cs.length c] 26) = w3 := ⟨_, rfl⟩
      have hB3 : Below w.heap.size w w3 := by rw [← hw3]; exact belAl hB2
      have hs3 : w.heap.size + 2 < w3.heap.size := by rw [← hw3]; simp; omega
      have bR3 : Boxed w3 w.heap.size 4 (.bool false) := by rw [← hw3]; exact bR2.alloc _
      have cB3 : w3.cell? ⟨w2.heap.size, 0, none⟩ = some (.slice A cs.length c) := by rw [← hw3]; exact alloc_cells 0 _ rfl
      gi_wp2_with fail
      clear hw3 bR2 hB2
      have HSQ := Lib.hid (twos_seq w2.heap.size w.heap.size A c cs w3 ((HL.out.below hB3).mono fun b hb => by unfold Bar; omega) HC.out.1 HC.out.2 (by omega) cB3)
      refine range_own rfl (enters_of Tryz.func129 (by kernel_rfl) rfl) HSQ.out (fun _ => rfl)
        (fun k X => (Boxed X w.heap.size 4 (.bool false) ∧ Below w.heap.size w X) ∧ ((twosTo cs cs.length).take k).all apartC = true)
        (fun c _ X => (Boxed X w.heap.size 4 (.bool false) ∧ Below w.heap.size w X) ∧ c = .ret ∧ (twosTo cs cs.length).all apartC = false)
        (fun k X Y ⟨⟨h1, h2⟩, h3⟩ hb => ⟨⟨(hb.block _ (by omega)).trans h1, h2.trans (hb.mono (by omega))⟩, h3⟩)
        (fun c k X Y ⟨⟨h1, h2⟩, h3⟩ hb => ⟨⟨(hb.block _ (by omega)).trans h1, h2.trans (hb.mono (by omega))⟩, h3⟩)
        ⟨⟨bR3, hB3⟩, rfl⟩
        (fun y a' _ => a' = { tmps := #[.slice A cs.length c, undef, .pointer (some ⟨w.heap.size, 0, none⟩), y.1.v, y.2.v, .slice A cs.length c, .int .i64 cs.length, .bool false, .bool false, .slice A cs.length c,
            .func (.func 128) #[] #[.pointer (some ⟨w.heap.size + 1, 0, none⟩)], .bool true, .bool false, .bool false, .slice A cs.length c, .func (.func 129) #[] #[.pointer (some ⟨w2.heap.size, 0, none⟩)], y.1.v, y.2.v, undef, undef, undef, undef, undef, undef, undef, undef, undef, undef], defers := [] })
        ?ax ?assign ?body ?done ?stop
      case ax =>
        rintro y a' _ X Y row h1 hg hr
        exact h1
      case assign =>
        intro l2 k y X K _ _ hK
        unfold encTw
        gi_wp2
        exact hK _ _ (Below.refl _ _) rfl
      case body =>
        rintro l2 k y a' X hXs hx ⟨⟨h1, h2⟩, h4⟩ rfl
        have hm := mem_twos (List.mem_of_getElem? hx)
        have HX := Lib.hid hx
        have HP := Lib.hid h4
        have i1 := Ck.Inp.inn ((HK.out y.1 hm.1).later h2)
        have i2 := Ck.Inp.inn ((HK.out y.2 hm.2).later h2)
        have j1 := isC_asc (List.all_eq_true.1 HQ.out y.1 hm.1)
        have j2 := isC_asc (List.all_eq_true.1 HQ.out y.2 hm.2)
        have HCF := Lib.hid (compareFunc_any _ _ _ _ _ _ X i1 i2)
        have HCM : Hid (∀ Z, Below X.heap.size X Z → Calls Tryz.prog 104 #[.slice y.1.A y.1.l.length y.1.c, .slice y.2.A y.2.l.length y.2.c] Z (RetV Z (.int .i64 (cmpC y.1.l y.2.l)))) := fun Z hZ => C3.Cmp_any _ _ _ _ _ _ Z (i1.later hZ) (i2.later hZ) j1.1 j2.1 j1.2 j2.2
        clear hm hx h4 i1 i2 j1 j2
        have hcl := h1.cell
        have hcf := h1.frozen
        obtain ⟨⟨yA, yc, yl⟩, ⟨zA, zc, zl⟩⟩ := y
        simp only [Ck.v] at HCF HCM ⊢
        obtain ⟨g, hg⟩ : ∃ g, aheadC yl zl = g := ⟨_, rfl⟩
        have HG := Lib.hid hg
        rw [hg] at HCF
        clear hg
        gi_wp2_with fail
        refine ⟨trivial, rfl, (CallsIn.inRound l2 (callsIn_wide.2 HCF.out)).mono ?_⟩
        clear HCF
        rintro e X5 ⟨i, rfl, hi, hb5⟩
        have hB5 : Below w.heap.size w X5 := h2.trans (hb5.mono h2.size)
        have g1 : Boxed X5 w.heap.size 4 (.bool false) := (hb5.block _ (by omega)).trans h1
        clear hcl hcf
        cases g with
        | false =>
          have hcl := g1.cell
          have hcf := g1.frozen
          have HF : Hid ((twosTo cs cs.length).all apartC = false) := all_false HX.out (by unfold apartC; simp only [HG.out, Bool.false_and])
          have hi0 : decide (0 ≤ i) = true := hi
          have hi1 : 0 ≤ i := of_decide_eq_true hi
          gi_wp2_with fail
          refine ⟨trivial, ?_⟩
          gi_wp2_with fail
          exact ⟨(KF.of_below hb5).trans (KF.set (by omega) _), ⟨g1.set _, hB5.setCell (by first | omega | (simp; omega) | simp) _⟩, rfl, HF.out⟩
        | true =>
          have hi0 : decide (0 ≤ i) = false := hi
          have hi1 : ¬ 0 ≤ i := of_decide_eq_false hi
          obtain ⟨z, hz⟩ : ∃ z, cmpC yl zl = z := ⟨_, rfl⟩
          have HZ := Lib.hid hz
          have HCM2 := Lib.hid (HCM.out X5 hb5)
          rw [hz] at HCM2
          clear hz hi
          gi_wp2_with fail
          refine ⟨trivial, rfl, (CallsIn.inRound l2 (callsIn_wide.2 HCM2.out)).mono ?_⟩
          clear HCM HCM2
          rintro e X6 ⟨rfl, hb6⟩
          have hb56 : Below X.heap.size X X6 := hb5.trans (hb6.mono hb5.size)
          have hB6 : Below w.heap.size w X6 := h2.trans (hb56.mono h2.size)
          have g6 : Boxed X6 w.heap.size 4 (.bool false) := (hb56.block _ (by omega)).trans h1
          have hcl := g6.cell
          have hcf := g6.frozen
          by_cases hz2 : z = 2
          · have kz : (z != 2) = false := by simp [hz2]
            have HF : Hid (((twosTo cs cs.length).take (k + 1)).all apartC = true) := by
              show List.all _ _ = _
              rw [all_take_succ HX.out, HP.out]
              unfold apartC
              simp only [HG.out, HZ.out, hz2]
              rfl
            gi_wp2_with fail
            exact ⟨KN.of_below hb56, ⟨⟨g6, hB6⟩, HF.out⟩, trivial⟩
          · have kz : (z != 2) = true := by simp [hz2]
            have HF : Hid ((twosTo cs cs.length).all apartC = false) := all_false HX.out (by unfold apartC; simp only [HG.out, HZ.out, decide_eq_false hz2]; rfl)
            gi_wp2_with fail
            exact ⟨(KF.of_below hb56).trans (KF.set (by omega) _), ⟨g6.set _, hB6.setCell (by first | omega | (simp; omega) | simp) _⟩, rfl, HF.out⟩
      case done =>
        rintro E X hE ⟨⟨hR, hB⟩, hp⟩ hK
        have hcl := hR.cell
        have hcf := hR.frozen
        rw [List.take_length] at hp
        have HP := Lib.hid hp
        clear hp
        gi_wp2
        have hne : w.heap.size ≠ E := by omega
        have hK2 : (X.setCell ⟨w.heap.size, 0, none⟩ (.bool true)).heap[E]? = some (.deferred (some [])) := (Below.heap_setCell _ _ _ _ (Ne.symm hne)).trans hK
        refine ⟨by simp, .inl ⟨_, _, rfl, run_takeDeferred hK2, ?_⟩⟩
        refine ⟨_, results_cell1 rfl rfl _ _ w.heap.size (.bool true) rfl ((World.cell?_of_block (World.putObj_heap_other hne)).trans (hR.set (.bool true)).cell), ?_⟩
        rw [HS.out, HP.out]
        exact ⟨rfl, (hB.setCell (by first | omega | (simp; omega) | simp) _).trans ⟨rfl, rfl, rfl, by simp, fun q hq => World.putObj_heap_other (by omega)⟩⟩
      case stop =>
        rintro E c k X hE hk ⟨⟨hR, hB⟩, rfl, hp⟩ hK
        have hcl := hR.cell
        have HP := Lib.hid hp
        clear hp
        gi_wp2
        have hne : w.heap.size ≠ E := by omega
        refine ⟨by simp, .inl ⟨_, _, rfl, run_takeDeferred hK, ?_⟩⟩
        refine ⟨_, results_cell1 rfl rfl _ _ w.heap.size (.bool false) rfl ((World.cell?_of_block (World.putObj_heap_other hne)).trans hcl), ?_⟩
        rw [HS.out, HP.out]
        exact ⟨rfl, hB.trans ⟨rfl, rfl, rfl, by simp, fun q hq => World.putObj_heap_other (by omega)⟩⟩
  · have k40 : decide (40 < (cs.length : Int)) = true := decide_eq_true (by omega)
    have HS : Hid (sibsC cs = false) := by show sibsC cs = _; unfold sibsC; rw [decide_eq_false h40]; rfl
    have hcl := bR.cell
    have hcf := bR.frozen
    clear h40
    gi_wp2_with fail
    refine ⟨trivial, ?_⟩
    gi_wp2_with fail
    refine ⟨trivial, ?_⟩
    gi_wp2_with fail
    refine ⟨_, results_cell1 rfl rfl _ _ w.heap.size (.bool false) rfl bR.cell, ?_⟩
    rw [HS.out]
    exact ⟨rfl, hB0⟩
end Go.Proofs.YtdbohojncbeajaaGreat.V4

namespace Go.Proofs.YtdbohojncbeajaaGreat.V4
open Go.RowKit
open S2 (Sc)
open C3 (isC belAl)

theorem alloc2_cell {w : World} {a : Obj} {cs : Array Value} {t : TypeId} (i : Nat) (v : Value) (h : cs[i]? = some v) : ((w.alloc a).alloc (.cells cs t)).cell? ⟨w.heap.size + 1, i, none⟩ = some v := by
  have := alloc_cells (w := w.alloc a) (t := t) i v h
  rw [World.size_alloc] at this
  exact this

/-- The parts of a value, at the world where value.formed asks for them. -/
theorem ckIn {w : World} (n m : Int) (sA : Option Addr) (sc : Nat) (ss : List Str) (cA : Option Addr) (cc : Nat) (cs : List Ck) (vA : Option Addr) (vc : Nat) (vs : List Vl) (hx : (Vl.mk n m sA sc ss cA cc cs vA vc vs).In w) : ∀ k ∈ cs, InC w k := by
  cases hx with
  | mk _ _ _ _ _ _ _ _ _ _ _ _ _ _ _ _ _ _ h8 _ _ _ => exact h8

set_option maxRecDepth 100000 in
set_option maxHeartbeats 1000000 in
theorem formed_1 (A : Option Addr) (c : Nat) (il : List Sc) (n m : Int) (sA : Option Addr) (sc : Nat) (ss : List Str) (cA : Option Addr) (cc : Nat) (cs : List Ck) (vA : Option Addr) (vc : Nat) (vs : List Vl) (w : World) : Calls Tryz.prog 59 #[.agg #[.int .i64 1, .slice A il.length c, .int .u64 n, .int .u64 m, .slice sA ss.length sc, .slice cA cs.length cc, .slice vA vs.length vc]] w (RetV w (.bool (true))) := by
  have hB0 : Below w.heap.size w ((w.alloc (.cells #[.int .i64 1, .slice A il.length c, .int .u64 n, .int .u64 m, .slice sA ss.length sc, .slice cA cs.length cc, .slice vA vs.length vc] 94)).alloc (.cells #[.int .u64 n, .int .u64 m, .slice sA ss.length sc, .slice cA cs.length cc, .slice vA vs.length vc] 29)) := belAl (belAl (Below.refl _ _))
  go_enter Tryz.func59, Tryz.ntmps59
  go_wp2_with fail
  go_ret
  exact ⟨rfl, hB0⟩

set_option maxRecDepth 100000 in
set_option maxHeartbeats 1000000 in
theorem formed_0 (k : Int) (h : ¬ (1 ≤ k ∧ k ≤ 8)) (A : Option Addr) (c : Nat) (il : List Sc) (n m : Int) (sA : Option Addr) (sc : Nat) (ss : List Str) (cA : Option Addr) (cc : Nat) (cs : List Ck) (vA : Option Addr) (vc : Nat) (vs : List Vl) (w : World) : Calls Tryz.prog 59 #[.agg #[.int .i64 k, .slice A il.length c, .int .u64 n, .int .u64 m, .slice sA ss.length sc, .slice cA cs.length cc, .slice vA vs.length vc]] w (RetV w (.bool (false))) := by
  have hB0 : Below w.heap.size w ((w.alloc (.cells #[.int .i64 k, .slice A il.length c, .int .u64 n, .int .u64 m, .slice sA ss.length sc, .slice cA cs.length cc, .slice vA vs.length vc] 94)).alloc (.cells #[.int .u64 n, .int .u64 m, .slice sA ss.length sc, .slice cA cs.length cc, .slice vA vs.length vc] 29)) := belAl (belAl (Below.refl _ _))
  have k1 : (k == 1) = false := ibne (by omega)
  have k2 : (k == 2) = false := ibne (by omega)
  have k3 : (k == 3) = false := ibne (by omega)
  have k4 : (k == 4) = false := ibne (by omega)
  have k5 : (k == 5) = false := ibne (by omega)
  have k6 : (k == 6) = false := ibne (by omega)
  have k7 : (k == 7) = false := ibne (by omega)
  have k8 : (k == 8) = false := ibne (by omega)
  clear h
  go_enter Tryz.func59, Tryz.ntmps59
  go_wp2_with fail
  go_ret
  exact ⟨rfl, hB0⟩

set_option maxRecDepth 100000 in
set_option maxHeartbeats 1000000 in
theorem formed_2 (A : Option Addr) (c : Nat) (il : List Sc) (n m : Int) (sA : Option Addr) (sc : Nat) (ss : List Str) (cA : Option Addr) (cc : Nat) (cs : List Ck) (vA : Option Addr) (vc : Nat) (vs : List Vl) (w : World) (hx : (Vl.mk n m sA sc ss cA cc cs vA vc vs).In w) : Calls Tryz.prog 59 #[.agg #[.int .i64 2, .slice A il.length c, .int .u64 n, .int .u64 m, .slice sA ss.length sc, .slice cA cs.length cc, .slice vA vs.length vc]] w (RetV w (.bool (decide (n ≤ 1)))) := by
  have hB0 : Below w.heap.size w ((w.alloc (.cells #[.int .i64 2, .slice A il.length c, .int .u64 n, .int .u64 m, .slice sA ss.length sc, .slice cA cs.length cc, .slice vA vs.length vc] 94)).alloc (.cells #[.int .u64 n, .int .u64 m, .slice sA ss.length sc, .slice cA cs.length cc, .slice vA vs.length vc] 29)) := belAl (belAl (Below.refl _ _))
  have hn := hx.out.hn
  clear hx
  go_enter Tryz.func59, Tryz.ntmps59
  go_wp2_with fail
  go_ret
  exact ⟨rfl, hB0⟩

set_option maxRecDepth 100000 in
set_option maxHeartbeats 1000000 in
theorem formed_3 (A : Option Addr) (c : Nat) (il : List Sc) (n m : Int) (sA : Option Addr) (sc : Nat) (ss : List Str) (cA : Option Addr) (cc : Nat) (cs : List Ck) (vA : Option Addr) (vc : Nat) (vs : List Vl) (w : World) (hx : (Vl.mk n m sA sc ss cA cc cs vA vc vs).In w) : Calls Tryz.prog 59 #[.agg #[.int .i64 3, .slice A il.length c, .int .u64 n, .int .u64 m, .slice sA ss.length sc, .slice cA cs.length cc, .slice vA vs.length vc]] w (RetV w (.bool (textsS ss))) := by
  have hB0 : Below w.heap.size w ((w.alloc (.cells #[.int .i64 3, .slice A il.length c, .int .u64 n, .int .u64 m, .slice sA ss.length sc, .slice cA cs.length cc, .slice vA vs.length vc] 94)).alloc (.cells #[.int .u64 n, .int .u64 m, .slice sA ss.length sc, .slice cA cs.length cc, .slice vA vs.length vc] 29)) := belAl (belAl (Below.refl _ _))
  have hp := (hx.later hB0).out
  have HC := Lib.hid (texts_any sA sc ss _ hp.sl (by have := hp.sb; omega) hp.st)
  clear hx hp
  go_enter Tryz.func59, Tryz.ntmps59
  go_wp2_with fail
  refine HC.out.mono ?_
  rintro e w' ⟨rfl, hb⟩
  go_wp2_with fail
  go_ret
  exact ⟨rfl, hB0.trans (hb.mono hB0.size)⟩

set_option maxRecDepth 100000 in
set_option maxHeartbeats 1000000 in
theorem formed_5 (A : Option Addr) (c : Nat) (il : List Sc) (n m : Int) (sA : Option Addr) (sc : Nat) (ss : List Str) (cA : Option Addr) (cc : Nat) (cs : List Ck) (vA : Option Addr) (vc : Nat) (vs : List Vl) (w : World) : Calls Tryz.prog 59 #[.agg #[.int .i64 5, .slice A il.length c, .int .u64 n, .int .u64 m, .slice sA ss.length sc, .slice cA cs.length cc, .slice vA vs.length vc]] w (RetV w (.bool (decide (vs.length = 2)))) := by
  have hB0 : Below w.heap.size w ((w.alloc (.cells #[.int .i64 5, .slice A il.length c, .int .u64 n, .int .u64 m, .slice sA ss.length sc, .slice cA cs.length cc, .slice vA vs.length vc] 94)).alloc (.cells #[.int .u64 n, .int .u64 m, .slice sA ss.length sc, .slice cA cs.length cc, .slice vA vs.length vc] 29)) := belAl (belAl (Below.refl _ _))
  by_cases h2 : vs.length = 2
  · have k2 : ((vs.length : Int) == 2) = true := ibeq (by omega)
    rw [decide_eq_true h2]
    clear h2
    go_enter Tryz.func59, Tryz.ntmps59
    go_wp2_with fail
    go_ret
    exact ⟨rfl, hB0⟩
  · have k2 : ((vs.length : Int) == 2) = false := ibne (by omega)
    rw [decide_eq_false h2]
    clear h2
    go_enter Tryz.func59, Tryz.ntmps59
    go_wp2_with fail
    go_ret
    exact ⟨rfl, hB0⟩

set_option maxRecDepth 100000 in
set_option maxHeartbeats 1000000 in
theorem formed_6 (A : Option Addr) (c : Nat) (il : List Sc) (n m : Int) (sA : Option Addr) (sc : Nat) (ss : List Str) (cA : Option Addr) (cc : Nat) (cs : List Ck) (vA : Option Addr) (vc : Nat) (vs : List Vl) (w : World) (hx : (Vl.mk n m sA sc ss cA cc cs vA vc vs).In w) : Calls Tryz.prog 59 #[.agg #[.int .i64 6, .slice A il.length c, .int .u64 n, .int .u64 m, .slice sA ss.length sc, .slice cA cs.length cc, .slice vA vs.length vc]] w (RetV w (.bool (hasN n m ss.length cs.length vs.length false false false false false || writtenV n m ss))) := by
  have hB0 : Below w.heap.size w ((w.alloc (.cells #[.int .i64 6, .slice A il.length c, .int .u64 n, .int .u64 m, .slice sA ss.length sc, .slice cA cs.length cc, .slice vA vs.length vc] 94)).alloc (.cells #[.int .u64 n, .int .u64 m, .slice sA ss.length sc, .slice cA cs.length cc, .slice vA vs.length vc] 29)) := belAl (belAl (Below.refl _ _))
  have hp := (hx.later hB0).out
  have hn := hp.hn
  have hm := hp.hm
  have HW : Hid (∀ Z, Below (((w.alloc (.cells #[.int .i64 6, .slice A il.length c, .int .u64 n, .int .u64 m, .slice sA ss.length sc, .slice cA cs.length cc, .slice vA vs.length vc] 94)).alloc (.cells #[.int .u64 n, .int .u64 m, .slice sA ss.length sc, .slice cA cs.length cc, .slice vA vs.length vc] 29))).heap.size (((w.alloc (.cells #[.int .i64 6, .slice A il.length c, .int .u64 n, .int .u64 m, .slice sA ss.length sc, .slice cA cs.length cc, .slice vA vs.length vc] 94)).alloc (.cells #[.int .u64 n, .int .u64 m, .slice sA ss.length sc, .slice cA cs.length cc, .slice vA vs.length vc] 29))) Z → Calls Tryz.prog 81 #[.agg #[.int .u64 n, .int .u64 m, .slice sA ss.length sc, .slice cA cs.length cc, .slice vA vs.length vc]] Z (RetV Z (.bool (writtenV n m ss)))) := fun Z hZ => written_any n m sA sc ss cA cc _ vA vc _ Z hn.1 hm.1 (hp.sl.below hZ) (by have := hp.sb; omega) hp.st
  clear hx hp hn hm
  obtain ⟨q, hq⟩ : ∃ q, hasN n m ss.length cs.length vs.length false false false false false = q := ⟨_, rfl⟩
  have HC := Lib.hid (blank_any n m sA sc ss.length cA cc cs.length vA vc vs.length (((w.alloc (.cells #[.int .i64 6, .slice A il.length c, .int .u64 n, .int .u64 m, .slice sA ss.length sc, .slice cA cs.length cc, .slice vA vs.length vc] 94)).alloc (.cells #[.int .u64 n, .int .u64 m, .slice sA ss.length sc, .slice cA cs.length cc, .slice vA vs.length vc] 29))))
  rw [hq] at HC ⊢
  clear hq
  go_enter Tryz.func59, Tryz.ntmps59
  go_wp2_with fail
  refine HC.out.mono ?_
  clear HC
  rintro e w3 ⟨rfl, hb⟩
  have e0 := (hb.cell (p := ⟨w.heap.size + 1, 0, none⟩) (by simp)).trans (alloc2_cell 0 _ rfl)
  have e1 := (hb.cell (p := ⟨w.heap.size + 1, 1, none⟩) (by simp)).trans (alloc2_cell 1 _ rfl)
  have e2 := (hb.cell (p := ⟨w.heap.size + 1, 2, none⟩) (by simp)).trans (alloc2_cell 2 _ rfl)
  have e3 := (hb.cell (p := ⟨w.heap.size + 1, 3, none⟩) (by simp)).trans (alloc2_cell 3 _ rfl)
  have e4 := (hb.cell (p := ⟨w.heap.size + 1, 4, none⟩) (by simp)).trans (alloc2_cell 4 _ rfl)
  have hB3 := hB0.trans (hb.mono hB0.size)
  have HW2 := Lib.hid (HW.out w3 hb)
  clear HW hb hB0
  cases q with
  | true =>
    go_wp2_with fail
    go_ret
    exact ⟨rfl, hB3⟩
  | false =>
    go_wp2_with fail
    refine HW2.out.mono ?_
    rintro e w4 ⟨rfl, hb4⟩
    go_wp2_with fail
    go_ret
    exact ⟨rfl, hB3.trans (hb4.mono hB3.size)⟩

set_option maxRecDepth 100000 in
set_option maxHeartbeats 1000000 in
theorem formed_7 (A : Option Addr) (c : Nat) (il : List Sc) (n m : Int) (sA : Option Addr) (sc : Nat) (ss : List Str) (cA : Option Addr) (cc : Nat) (cs : List Ck) (vA : Option Addr) (vc : Nat) (vs : List Vl) (w : World) (hx : (Vl.mk n m sA sc ss cA cc cs vA vc vs).In w) : Calls Tryz.prog 59 #[.agg #[.int .i64 7, .slice A il.length c, .int .u64 n, .int .u64 m, .slice sA ss.length sc, .slice cA cs.length cc, .slice vA vs.length vc]] w (RetV w (.bool (decide (cs.length ≤ 1) && !cs.any idleC))) := by
  have hB0 : Below w.heap.size w ((w.alloc (.cells #[.int .i64 7, .slice A il.length c, .int .u64 n, .int .u64 m, .slice sA ss.length sc, .slice cA cs.length cc, .slice vA vs.length vc] 94)).alloc (.cells #[.int .u64 n, .int .u64 m, .slice sA ss.length sc, .slice cA cs.length cc, .slice vA vs.length vc] 29)) := belAl (belAl (Below.refl _ _))
  have hp := (hx.later hB0).out
  have hk := ckIn n m sA sc ss cA cc cs vA vc vs (hx.later hB0)
  have HC := Lib.hid (containsIdle_any cA cc cs _ hp.cl (by have := hp.cb; omega) hk)
  clear hx hp hk
  by_cases h1 : cs.length ≤ 1
  · have k1 : decide ((cs.length : Int) ≤ 1) = true := decide_eq_true (by omega)
    rw [decide_eq_true h1]
    go_enter Tryz.func59, Tryz.ntmps59
    go_wp2_with fail
    refine HC.out.mono ?_
    rintro e w' ⟨rfl, hb⟩
    go_wp2_with fail
    go_ret
    exact ⟨rfl, hB0.trans (hb.mono hB0.size)⟩
  · have k1 : decide ((cs.length : Int) ≤ 1) = false := decide_eq_false (by omega)
    rw [decide_eq_false h1]
    clear h1
    go_enter Tryz.func59, Tryz.ntmps59
    go_wp2_with fail
    go_ret
    exact ⟨rfl, hB0⟩

set_option maxRecDepth 100000 in
set_option maxHeartbeats 1000000 in
theorem formed_8 (A : Option Addr) (c : Nat) (il : List Sc) (n m : Int) (sA : Option Addr) (sc : Nat) (ss : List Str) (cA : Option Addr) (cc : Nat) (cs : List Ck) (vA : Option Addr) (vc : Nat) (vs : List Vl) (w : World) (hx : (Vl.mk n m sA sc ss cA cc cs vA vc vs).In w) : Calls Tryz.prog 59 #[.agg #[.int .i64 8, .slice A il.length c, .int .u64 n, .int .u64 m, .slice sA ss.length sc, .slice cA cs.length cc, .slice vA vs.length vc]] w (RetV w (.bool (decide (cs.length = vs.length) && sibsC cs))) := by
  have hB0 : Below w.heap.size w ((w.alloc (.cells #[.int .i64 8, .slice A il.length c, .int .u64 n, .int .u64 m, .slice sA ss.length sc, .slice cA cs.length cc, .slice vA vs.length vc] 94)).alloc (.cells #[.int .u64 n, .int .u64 m, .slice sA ss.length sc, .slice cA cs.length cc, .slice vA vs.length vc] 29)) := belAl (belAl (Below.refl _ _))
  have hp := (hx.later hB0).out
  have hk := ckIn n m sA sc ss cA cc cs vA vc vs (hx.later hB0)
  have HC := Lib.hid (siblings_any cA cc cs _ hp.cl hp.cb.1 hp.cb.2.1 hp.cb.2.2 hk)
  clear hx hp hk
  by_cases h1 : cs.length = vs.length
  · have k1 : ((cs.length : Int) == (vs.length : Int)) = true := ibeq (by omega)
    rw [decide_eq_true h1]
    clear h1
    go_enter Tryz.func59, Tryz.ntmps59
    go_wp2_with fail
    refine HC.out.mono ?_
    rintro e w' ⟨rfl, hb⟩
    go_wp2_with fail
    go_ret
    exact ⟨rfl, hB0.trans (hb.mono hB0.size)⟩
  · have k1 : ((cs.length : Int) == (vs.length : Int)) = false := ibne (by omega)
    rw [decide_eq_false h1]
    clear h1
    go_enter Tryz.func59, Tryz.ntmps59
    go_wp2_with fail
    go_ret
    exact ⟨rfl, hB0⟩

end Go.Proofs.YtdbohojncbeajaaGreat.V4

namespace Go.Proofs.YtdbohojncbeajaaGreat.V4
open Go.RowKit Go.Shelf
open S2 (Sc isT allocB)
open C3 (isC belAl)

def flagsK (k n m : Int) (a b d : Nat) : Bool :=
  if k = 1 then hasN n m a b d true false false false false else if k = 2 then hasN n m a b d true false false false false else if k = 3 then hasN n m a b d false false true false false else
  if k = 4 then hasN n m a b d false false true false true else if k = 5 then hasN n m a b d false false false false true else if k = 6 then hasN n m a b d true true true false false else
  if k = 7 then hasN n m a b d false false false true false else if k = 8 then hasN n m a b d false false false true true else hasN n m a b d false false false false false
def formK (k n m : Int) (ss : List Str) (cs : List Ck) (d : Nat) (fl : Bool) : Bool :=
  if k = 1 then true else if k = 2 then decide (n ≤ 1) else if k = 3 then textsS ss else if k = 4 then textsS ss && (decide (d = ss.length) && fl) else if k = 5 then decide (d = 2) else
  if k = 6 then hasN n m ss.length cs.length d false false false false false || writtenV n m ss else if k = 7 then decide (cs.length ≤ 1) && !cs.any idleC else if k = 8 then decide (cs.length = d) && sibsC cs else false

set_option maxRecDepth 100000 in
set_option maxHeartbeats 1000000 in
theorem right_of (k : Int) (A : Option Addr) (c : Nat) (il : List Sc) (n m : Int) (sA : Option Addr) (sc : Nat) (ss : List Str) (cA : Option Addr) (cc : Nat) (cs : List Ck) (vA : Option Addr) (vc : Nat) (vs : List Vl) (w : World) (b f : Bool)
    (hs : ∀ Z, Calls Tryz.prog 58 #[.int .i64 k, .agg #[.int .u64 n, .int .u64 m, .slice sA ss.length sc, .slice cA cs.length cc, .slice vA vs.length vc]] Z (RetB Z b))
    (hf : ∀ Z, Below w.heap.size w Z → Calls Tryz.prog 59 #[.agg #[.int .i64 k, .slice A il.length c, .int .u64 n, .int .u64 m, .slice sA ss.length sc, .slice cA cs.length cc, .slice vA vs.length vc]] Z (RetV Z (.bool f))) :
    Calls Tryz.prog 42 #[.agg #[.int .i64 k, .slice A il.length c, .int .u64 n, .int .u64 m, .slice sA ss.length sc, .slice cA cs.length cc, .slice vA vs.length vc]] w (RetV w (.bool (b && f))) := by
  have HS := Lib.hid hs
  have HF := Lib.hid hf
  clear hs hf
  go_enter Tryz.func42, Tryz.ntmps42
  go_wp2_with fail
  refine (HS.out _).mono ?_
  rintro e w2 ⟨n', m', sA', sc', a', cA', cc', b', vA', vc', d', rfl, hh, hb2⟩
  have HH := Lib.hid hh
  have hB2 : Below w.heap.size w w2 := (allocB w _).trans (hb2.mono (by simp))
  have hs2 : w.heap.size < w2.heap.size := by have := hb2.size; simp at this; omega
  have hcell : ∀ i v, (#[.int .i64 k, .slice A il.length c, .int .u64 n, .int .u64 m, .slice sA ss.length sc, .slice cA cs.length cc, .slice vA vs.length vc] : Array Value)[i]? = some v → w2.cell? ⟨w.heap.size, i, none⟩ = some v := fun i v h => (hb2.cell (p := ⟨w.heap.size, i, none⟩) (by simp)).trans (alloc_cells i v h)
  clear hh hb2
  go_wp2_with fail
  refine (blank_any n' m' sA' sc' a' cA' cc' b' vA' vc' d' w2).mono ?_
  rintro e w3 ⟨rfl, hb3⟩
  rw [HH.out]
  have hB3 : Below w.heap.size w w3 := hB2.trans (hb3.mono hB2.size)
  have e0 := (hb3.cell (p := ⟨w.heap.size, 0, none⟩) hs2).trans (hcell 0 _ rfl)
  have e1 := (hb3.cell (p := ⟨w.heap.size, 1, none⟩) hs2).trans (hcell 1 _ rfl)
  have e2 := (hb3.cell (p := ⟨w.heap.size, 2, none⟩) hs2).trans (hcell 2 _ rfl)
  have e3 := (hb3.cell (p := ⟨w.heap.size, 3, none⟩) hs2).trans (hcell 3 _ rfl)
  have e4 := (hb3.cell (p := ⟨w.heap.size, 4, none⟩) hs2).trans (hcell 4 _ rfl)
  have e5 := (hb3.cell (p := ⟨w.heap.size, 5, none⟩) hs2).trans (hcell 5 _ rfl)
  have e6 := (hb3.cell (p := ⟨w.heap.size, 6, none⟩) hs2).trans (hcell 6 _ rfl)
  clear hcell hb3
  cases b with
  | false =>
    go_wp2_with fail
    go_ret
    exact ⟨rfl, hB3⟩
  | true =>
    go_wp2_with fail
    refine (HF.out w3 hB3).mono ?_
    rintro e w4 ⟨rfl, hb4⟩
    go_wp2_with fail
    go_ret
    exact ⟨rfl, hB3.trans (hb4.mono hB3.size)⟩

theorem stripped_any (k n m : Int) (sA : Option Addr) (sc a : Nat) (cA : Option Addr) (cc b : Nat) (vA : Option Addr) (vc d : Nat) (w : World) :
    Calls Tryz.prog 58 #[.int .i64 k, .agg #[.int .u64 n, .int .u64 m, .slice sA a sc, .slice cA b cc, .slice vA d vc]] w (RetB w (flagsK k n m a b d)) := by
  unfold flagsK
  by_cases h1 : k = 1
  · subst h1; exact stripped_1 n m sA sc a cA cc b vA vc d w
  rw [if_neg h1]
  by_cases h2 : k = 2
  · subst h2; exact stripped_2 n m sA sc a cA cc b vA vc d w
  rw [if_neg h2]
  by_cases h3 : k = 3
  · subst h3; exact stripped_3 n m sA sc a cA cc b vA vc d w
  rw [if_neg h3]
  by_cases h4 : k = 4
  · subst h4; exact stripped_4 n m sA sc a cA cc b vA vc d w
  rw [if_neg h4]
  by_cases h5 : k = 5
  · subst h5; exact stripped_5 n m sA sc a cA cc b vA vc d w
  rw [if_neg h5]
  by_cases h6 : k = 6
  · subst h6; exact stripped_6 n m sA sc a cA cc b vA vc d w
  rw [if_neg h6]
  by_cases h7 : k = 7
  · subst h7; exact stripped_7 n m sA sc a cA cc b vA vc d w
  rw [if_neg h7]
  by_cases h8 : k = 8
  · subst h8; exact stripped_8 n m sA sc a cA cc b vA vc d w
  rw [if_neg h8]
  exact stripped_0 k (by omega) n m sA sc a cA cc b vA vc d w

/-- Nothing, looked at alone. -/
def hollowK (k n m : Int) (a b d : Nat) : Bool := if k = 5 then hasN n m a b d false false false false true && decide (d = 2) else hasN n m a b d false false false false false
def hollowT (x : Sc × Vl) : Bool := hollowK x.1.k x.2.n x.2.m x.2.ss.length x.2.cs.length x.2.vs.length

set_option maxRecDepth 100000 in
set_option maxHeartbeats 1000000 in
theorem hollow_any (x : Sc × Vl) (w : World) : Calls Tryz.prog 124 #[valT x] w (RetV w (.bool (hollowT x))) := by
  obtain ⟨⟨k, A, c, il⟩, n, m, sA, sc, ss, cA, cc, cs, vA, vc, vs⟩ := x
  simp only [valT, cellsT, hollowT, Sc.k, Sc.v1, Vl.n, Vl.m, Vl.s1, Vl.c1, Vl.v1, Vl.ss, Vl.cs, Vl.vs]
  unfold hollowK
  have hB : Below w.heap.size w (w.alloc (.cells #[.int .i64 k, .slice A il.length c, .int .u64 n, .int .u64 m, .slice sA ss.length sc, .slice cA cs.length cc, .slice vA vs.length vc] 94)) := allocB w _
  by_cases h5 : k = 5
  · subst h5
    rw [if_pos rfl]
    have HR := Lib.hid (right_of 5 A c il n m sA sc ss cA cc cs vA vc vs (w.alloc (.cells #[.int .i64 5, .slice A il.length c, .int .u64 n, .int .u64 m, .slice sA ss.length sc, .slice cA cs.length cc, .slice vA vs.length vc] 94)) _ _
      (fun Z => stripped_5 n m sA sc ss.length cA cc cs.length vA vc vs.length Z) (fun Z _ => formed_5 A c il n m sA sc ss cA cc cs vA vc vs Z))
    go_enter Tryz.func124, Tryz.ntmps124
    go_wp2_with fail
    refine HR.out.mono ?_
    rintro e w' ⟨rfl, hb⟩
    go_wp2_with fail
    go_ret
    exact ⟨rfl, hB.trans (hb.mono hB.size)⟩
  · rw [if_neg h5]
    have k5 : (k == 5) = false := ibne h5
    clear h5
    go_enter Tryz.func124, Tryz.ntmps124
    go_wp2_with fail
    refine (blank_any n m sA sc ss.length cA cc cs.length vA vc vs.length _).mono ?_
    rintro e w' ⟨rfl, hb⟩
    go_wp2_with fail
    go_ret
    exact ⟨rfl, hB.trans (hb.mono hB.size)⟩
end Go.Proofs.YtdbohojncbeajaaGreat.V4

namespace Go.Proofs.YtdbohojncbeajaaGreat.V4
open Go.RowKit Go.Shelf
open S2 (Sc isT allocB results_cell1)
open C3 (isC belAl)

attribute [local go_sem] Oper.semAt_some

/-- It is a schema, or what stands where there is none. -/
def OkS (s : Sc) : Prop := (∃ n, isT n s.er = true) ∨ (s.k = 0 ∧ s.ins = [])

theorem okS_at {s : Sc} (h : OkS s) (i : Nat) : OkS (scAt s.ins i) := by
  unfold scAt
  cases hx : s.ins[min i (s.ins.length - 1)]? with
  | none => exact .inr ⟨rfl, rfl⟩
  | some y =>
    rcases h with ⟨n, hn⟩ | ⟨_, h⟩
    · cases n with
      | zero => simp [isT] at hn
      | succ n =>
        obtain ⟨k, A, c, l⟩ := s
        rw [S2.er_mk] at hn
        exact .inl ⟨n, isT_ins hn _ (List.mem_map.2 ⟨y, List.mem_of_getElem? hx, rfl⟩)⟩
    · rw [h] at hx; simp at hx

theorem okS_len {s : Sc} (h : OkS s) (hk : s.k ≠ 0) : (s.ins.length : Int) = S2.arI s.k := by
  rcases h with ⟨n, hn⟩ | ⟨h0, _⟩
  · obtain ⟨k, A, c, l⟩ := s
    rw [S2.er_mk] at hn
    have := isT_len hn
    rw [List.length_map] at this
    exact this
  · exact absurd h0 hk

theorem okS_ins {s : Sc} (h : OkS s) (hk : s.k = 4 ∨ s.k = 5 ∨ s.k = 8) : s.ins ≠ [] := by
  intro e
  have h1 := okS_len h (by omega)
  rw [e] at h1
  rcases hk with hk | hk | hk <;> rw [hk] at h1 <;> simp [S2.arI] at h1

theorem okT : ∀ (v : Vl) (s : Sc), OkS s → ∀ x ∈ (treeT v s).pre, OkS x.1 := by
  intro v
  induction v using Vl.ind with
  | h n m sA sc ss cA cc cs vA vc vs ih =>
    intro s hs x hx
    rw [treeT_mk, Nd.pre] at hx
    rcases List.mem_cons.1 hx with rfl | hx
    · exact hs
    · obtain ⟨t, ht, hx⟩ := mem_preL hx
      obtain ⟨i, hi⟩ := List.getElem?_of_mem ht
      rw [treeTL_at] at hi
      obtain ⟨y, hy, rfl⟩ := Option.map_eq_some_iff.1 hi
      exact ih y (List.mem_of_getElem? hy) _ (okS_at hs _) x hx

theorem inT_pre {w : World} : ∀ (v : Vl) (s : Sc), InT w (s, v) → ∀ x ∈ (treeT v s).pre, InT w x := fun v s h x hx => by
  have hg := goodT (D := w.heap.size) v s (h.2.bar (Nat.le_refl _)) (sc_bar h.1 (Nat.le_refl _))
  have := hg.all x hx
  exact ⟨sc_inn this.1, this.2.inn⟩

theorem hollow_safe {x : Sc × Vl} (h : OkS x.1) (hx : hollowT x = true) : SafeT x := by
  unfold hollowT hollowK at hx
  by_cases h5 : x.1.k = 5
  · exact .inr (okS_ins h (.inr (.inl h5)))
  · rw [if_neg h5] at hx
    simp [hasN] at hx
    exact .inl (by simpa using hx.2.2.2.2)

/-- Nothing, all the way in. -/
def noneT (x : Sc × Vl) : Bool := (treeT x.2 x.1).pre.all hollowT

set_option maxRecDepth 100000 in
set_option maxHeartbeats 1000000 in
theorem none_any (x : Sc × Vl) (w : World) (hin : InT w x) (hok : OkS x.1) : Calls Tryz.prog 108 #[valT x] w (RetV w (.bool (noneT x))) := by
  have hB : Below w.heap.size w (w.alloc (.cells (cellsT x) 94)) := allocB w _
  have hin1 := hin.later hB
  have HN := Lib.hid (nested_T (treeT x.2 x.1) (w.alloc (.cells (cellsT x) 94)) (fun D hD => goodT x.2 x.1 (hin1.2.bar hD) (sc_bar hin1.1 hD)))
  have HE : Hid (∀ (b1 b2 : Nat) (w' : World), Below (w.alloc (.cells (cellsT x) 94)).heap.size (w.alloc (.cells (cellsT x) 94)) w' →
      (∀ D w2, Below w'.heap.size w' w2 → (w.alloc (.cells (cellsT x) 94)).heap.size ≤ D → D < w2.heap.size → SeqO Tryz.prog 54 #[.pointer (some ⟨b1, 0, none⟩), .pointer (some ⟨b2, 0, none⟩)] encT D SafeT (treeT x.2 x.1).pre w2) →
      Calls Tryz.prog 39 #[.func (.func 54) #[] #[.pointer (some ⟨b1, 0, none⟩), .pointer (some ⟨b2, 0, none⟩)], .func (.func 124) #[] #[]] w' (RetV w' (.bool (noneT x)))) := fun b1 b2 w' hb hs =>
    every_hollow hollowT (treeT x.2 x.1).pre (fun y _ W _ => hollow_any y W) SafeT (fun y hy h => hollow_safe (okT x.2 x.1 hok y hy) h) _ _ (enters_of Tryz.func54 (by kernel_rfl) rfl) w'
      (fun D w2 hb2 hD hD2 => hs D w2 hb2 (Nat.le_trans hb.size hD) hD2) (fun y hy => inT_pre x.2 x.1 (hin1.later hb) y hy)
  rw [treeT_lab] at HN
  have HB := Lib.hid hB
  clear hin hin1 hok hB
  obtain ⟨⟨k, A, c, il⟩, n, m, sA, sc, ss, cA, cc, cs, vA, vc, vs⟩ := x
  simp only [valT, cellsT, Sc.k, Sc.v1, Vl.n, Vl.m, Vl.s1, Vl.c1, Vl.v1] at HN HE HB ⊢
  go_enter Tryz.func108, Tryz.ntmps108
  go_wp2_with fail
  refine HN.out.mono ?_
  clear HN
  rintro e w2 ⟨b1, b2, rfl, hb2, hseq⟩
  have HC := Lib.hid (HE.out b1 b2 w2 hb2 hseq)
  clear hseq HE
  go_wp2_with fail
  refine HC.out.mono ?_
  rintro e w3 ⟨rfl, hb3⟩
  go_wp2_with fail
  go_ret
  exact ⟨rfl, HB.out.trans ((hb2.trans (hb3.mono hb2.size)).mono HB.out.size)⟩
end Go.Proofs.YtdbohojncbeajaaGreat.V4

namespace Go.Proofs.YtdbohojncbeajaaGreat.V4
open Go.RowKit Go.Shelf
open S2 (Sc isT allocB results_cell1)
open C3 (isC belAl)

attribute [local go_sem] Oper.semAt_some

/-- Each key has something. -/
def filledT (x : Sc × Vl) : Bool := (kidsT x).all fun y => !noneT y

theorem inT_kid {w : World} {x y : Sc × Vl} (h : InT w x) (hy : y ∈ kidsT x) : InT w y := by
  obtain ⟨i, hi⟩ := List.getElem?_of_mem hy
  rw [kidsT_at] at hi
  obtain ⟨v, hv, rfl⟩ := Option.map_eq_some_iff.1 hi
  exact ⟨sc_at h.1 i, Vl.Inp.kid h.2 (List.mem_of_getElem? hv)⟩
theorem okS_kid {x y : Sc × Vl} (h : OkS x.1) (hy : y ∈ kidsT x) : OkS y.1 := by
  obtain ⟨i, hi⟩ := List.getElem?_of_mem hy
  rw [kidsT_at] at hi
  obtain ⟨v, hv, rfl⟩ := Option.map_eq_some_iff.1 hi
  exact okS_at h i

set_option maxRecDepth 100000 in
set_option maxHeartbeats 1000000 in
theorem filled_any (x : Sc × Vl) (w : World) (hin : InT w x) (hok : OkS x.1) (hsafe : SafeT x) : Calls Tryz.prog 80 #[valT x] w (RetV w (.bool (filledT x))) := by
  obtain ⟨V, hV⟩ : ∃ V, (w.alloc (.cells (cellsT x) 94)).alloc (.cells #[.bool false] 4) = V := ⟨_, rfl⟩
  have hB0 : Below w.heap.size w V := by rw [← hV]; exact belAl (allocB w _)
  have hsz : V.heap.size = w.heap.size + 2 := by rw [← hV]; simp
  have bR : Boxed V (w.heap.size + 1) 4 (.bool false) := by
    have := Boxed.new (w.alloc (.cells (cellsT x) 94)) 4 (.bool false)
    rw [World.size_alloc, hV] at this
    exact this
  have hcell : ∀ i v, (cellsT x)[i]? = some v → V.cell? ⟨w.heap.size, i, none⟩ = some v := fun i v h => by
    rw [← hV]
    exact ((belAl1 (Below.refl (w.heap.size + 1) (w.alloc (.cells (cellsT x) 94))) (by simp)).cell (p := ⟨w.heap.size, i, none⟩) (by simp)).trans (alloc_cells i v h)
  have hm : MemT (w.heap.size + 1) V x := ⟨sc_bar (hin.1.keep hB0) (by omega), (Vl.Inp.keep hin.2 fun b hlt => hB0.block b hlt).mono fun b hb => by unfold Bar; omega⟩
  have HG := Lib.hid (inside_gives x (w.heap.size + 1) V hm hsafe)
  have HM : Hid (∀ y ∈ kidsT x, InT w y ∧ OkS y.1) := fun y hy => ⟨inT_kid hin hy, okS_kid hok hy⟩
  obtain ⟨x0, hx0⟩ : ∃ x0, x0 = x := ⟨_, rfl⟩
  have HX0 : Hid (filledT x = (kidsT x0).all fun y => !noneT y) := by rw [hx0]; rfl
  rw [← hx0] at HM
  have hg2 := HG.out
  rw [show kidsT x = kidsT x0 by rw [hx0]] at hg2
  have HG2 := Lib.hid hg2
  clear hm hin hok hsafe HG hg2 hx0
  obtain ⟨⟨k, A, c, il⟩, n, m, sA, sc, ss, cA, cc, cs, vA, vc, vs⟩ := x
  have e0 := hcell 0 _ rfl
  have e1 := hcell 1 _ rfl
  have e2 := hcell 2 _ rfl
  have e3 := hcell 3 _ rfl
  have e4 := hcell 4 _ rfl
  have e5 := hcell 5 _ rfl
  have e6 := hcell 6 _ rfl
  simp only [valT, cellsT, Sc.k, Sc.v1, Vl.n, Vl.m, Vl.s1, Vl.c1, Vl.v1] at e0 e1 e2 e3 e4 e5 e6 HG2 hV ⊢
  clear hcell
  refine (callsIn_wide (n := 6)).1 (callsIn_of_wp_marks Tryz.func80 rfl trivial ?_ rfl)
  simp only [Tryz.ntmps80, List.size_toArray, List.length_cons, List.length_nil, Nat.reduceAdd, Nat.reduceSub, Array.replicate_succ, Array.replicate_zero, List.push_toArray, List.append_toArray, List.nil_append, List.cons_append]
  gi_wp2_with fail
  clear hV
  refine ⟨trivial, (callsIn_wide.2 HG2.out).mono ?_⟩
  clear HG2 e0 e1 e2 e3 e4 e5 e6
  rintro e W4 ⟨bt, rfl, hb4, hseq⟩
  have HSQ := Lib.hid hseq
  have hs4 := hb4.size
  have hB4 : Below w.heap.size w W4 := hB0.trans (hb4.mono hB0.size)
  have bR4 : Boxed W4 (w.heap.size + 1) 4 (.bool false) := (hb4.block _ (by omega)).trans bR
  clear hseq bR hb4 hB0
  gi_wp2_with fail
  refine range_own rfl (enters_of Tryz.func56 (by kernel_rfl) rfl) HSQ.out (fun _ => rfl)
    (fun k X => (Boxed X (w.heap.size + 1) 4 (.bool false) ∧ Below w.heap.size w X) ∧ ((kidsT x0).take k).all (fun y => !noneT y) = true)
    (fun c _ X => (Boxed X (w.heap.size + 1) 4 (.bool false) ∧ Below w.heap.size w X) ∧ c = .ret ∧ (kidsT x0).all (fun y => !noneT y) = false)
    (fun k X Y ⟨⟨h1, h2⟩, h3⟩ hb => ⟨⟨(hb.block _ (by omega)).trans h1, h2.trans (hb.mono (by omega))⟩, h3⟩)
    (fun c k X Y ⟨⟨h1, h2⟩, h3⟩ hb => ⟨⟨(hb.block _ (by omega)).trans h1, h2.trans (hb.mono (by omega))⟩, h3⟩)
    ⟨⟨bR4, hB4⟩, rfl⟩
    (fun y a' X => ∃ bp, a' = { tmps := #[.agg #[.int .i64 k, .slice A il.length c, .int .u64 n, .int .u64 m, .slice sA ss.length sc, .slice cA cs.length cc, .slice vA vs.length vc], .pointer (some ⟨w.heap.size, 0, none⟩), .pointer (some ⟨w.heap.size + 1, 0, none⟩), .pointer (some ⟨bp, 0, none⟩), .agg #[.int .i64 k, .slice A il.length c, .int .u64 n, .int .u64 m, .slice sA ss.length sc, .slice cA cs.length cc, .slice vA vs.length vc],
        .func (.func 56) #[] #[.pointer (some ⟨bt, 0, none⟩)], valT y, undef, undef], defers := [] } ∧ ∀ i v, (cellsT y)[i]? = some v → X.cell? ⟨bp, i, none⟩ = some v)
    ?ax ?assign ?body ?done ?stop
  case ax =>
    rintro y a' _ X Y row ⟨bp, h1, h2⟩ hg hr
    exact ⟨bp, h1, fun i v h => cell_kept (h2 i v h) hg (fun r e => (hr r e).2)⟩
  case assign =>
    intro l2 k y X K _ _ hK
    obtain ⟨⟨yk, yA, yc, yl⟩, yn, ym, ysA, ysc, yss, ycA, ycc, ycs, yvA, yvc, yvs⟩ := y
    unfold encT
    simp only [valT, cellsT, Sc.k, Sc.v1, Vl.n, Vl.m, Vl.s1, Vl.c1, Vl.v1]
    gi_wp2
    exact hK _ _ (allocB _ _) ⟨X.heap.size, rfl, fun i v h => alloc_cells i v h⟩
  case body =>
    rintro l2 k y a' X hXs hx ⟨⟨h1, h2⟩, h4⟩ ⟨bp, rfl, hc⟩
    have HX := Lib.hid hx
    have hm := HM.out y (List.mem_of_getElem? hx)
    have HR := Lib.hid (none_any y X (hm.1.later h2) hm.2)
    obtain ⟨q, hq⟩ : ∃ q, noneT y = q := ⟨_, rfl⟩
    have HQ := Lib.hid hq
    have HP := Lib.hid h4
    rw [hq] at HR
    clear hx hq h4 hm
    obtain ⟨⟨yk, yA, yc, yl⟩, yn, ym, ysA, ysc, yss, ycA, ycc, ycs, yvA, yvc, yvs⟩ := y
    have e0 := hc 0 _ rfl
    have e1 := hc 1 _ rfl
    have e2 := hc 2 _ rfl
    have e3 := hc 3 _ rfl
    have e4 := hc 4 _ rfl
    have e5 := hc 5 _ rfl
    have e6 := hc 6 _ rfl
    simp only [valT, cellsT, Sc.k, Sc.v1, Vl.n, Vl.m, Vl.s1, Vl.c1, Vl.v1] at e0 e1 e2 e3 e4 e5 e6 HR ⊢
    clear hc
    gi_wp2_with fail
    refine ⟨trivial, rfl, (CallsIn.inRound l2 (callsIn_wide.2 HR.out)).mono ?_⟩
    clear HR e0 e1 e2 e3 e4 e5 e6
    rintro e X5 ⟨rfl, hb5⟩
    have g1 : Boxed X5 (w.heap.size + 1) 4 (.bool false) := (hb5.block _ (by omega)).trans h1
    have hB5 : Below w.heap.size w X5 := h2.trans (hb5.mono h2.size)
    cases q with
    | false =>
      gi_wp2_with fail
      exact ⟨KN.of_below hb5, ⟨⟨g1, hB5⟩, by rw [all_take_succ HX.out, HP.out, HQ.out]; rfl⟩, trivial⟩
    | true =>
      have hcl5 := g1.cell
      have hcf5 := g1.frozen
      gi_wp2_with fail
      exact ⟨(KF.of_below hb5).trans (KF.set (by omega) _), ⟨g1.set _, hB5.setCell (by first | omega | (simp; omega) | simp) _⟩, rfl, all_false HX.out (by rw [HQ.out]; rfl)⟩
  case done =>
    rintro E X hE ⟨⟨hR, hB⟩, hp⟩ hK
    have hcl := hR.cell
    have hcf := hR.frozen
    rw [List.take_length] at hp
    have HP := Lib.hid hp
    clear hp
    gi_wp2
    have hne : w.heap.size + 1 ≠ E := by omega
    have hK2 : (X.setCell ⟨w.heap.size + 1, 0, none⟩ (.bool true)).heap[E]? = some (.deferred (some [])) := (Below.heap_setCell _ _ _ _ (Ne.symm hne)).trans hK
    refine ⟨by simp, .inl ⟨_, _, rfl, run_takeDeferred hK2, ?_⟩⟩
    refine ⟨_, results_cell1 rfl rfl _ _ (w.heap.size + 1) (.bool true) rfl ((World.cell?_of_block (World.putObj_heap_other hne)).trans (hR.set (.bool true)).cell), ?_⟩
    rw [HX0.out, HP.out]
    exact ⟨rfl, (hB.setCell (by first | omega | (simp; omega) | simp) _).trans ⟨rfl, rfl, rfl, by simp, fun q hq => World.putObj_heap_other (by omega)⟩⟩
  case stop =>
    rintro E c k X hE hk ⟨⟨hR, hB⟩, rfl, hp⟩ hK
    have hcl := hR.cell
    have HP := Lib.hid hp
    clear hp
    gi_wp2
    have hne : w.heap.size + 1 ≠ E := by omega
    refine ⟨by simp, .inl ⟨_, _, rfl, run_takeDeferred hK, ?_⟩⟩
    refine ⟨_, results_cell1 rfl rfl _ _ (w.heap.size + 1) (.bool false) rfl ((World.cell?_of_block (World.putObj_heap_other hne)).trans hcl), ?_⟩
    rw [HX0.out, HP.out]
    exact ⟨rfl, hB.trans ⟨rfl, rfl, rfl, by simp, fun q hq => World.putObj_heap_other (by omega)⟩⟩
end Go.Proofs.YtdbohojncbeajaaGreat.V4

namespace Go.Proofs.YtdbohojncbeajaaGreat.S2
open Go.RowKit

theorem wrap_id {d : Int} (h0 : 0 ≤ d) (h1 : d ≤ 1000) : wrap64 (d + 1) = d + 1 := by
  unfold wrap64
  omega

theorem good_pre : ∀ (s : Sc) (n : Nat) (d : Int), d = 17 - n → n ≤ 16 → (preS s d).all goodS = isT n s.er := by
  intro s
  induction s using Sc.ind with
  | h k A c l ih =>
    intro n d hd hn
    rw [preS, List.all_cons]
    cases n with
    | zero =>
      have : d = 17 := by omega
      subst this
      rfl
    | succ n =>
      have hl : ∀ l' : List Sc, (∀ x ∈ l', x ∈ l) → (preL l' (wrap64 (d + 1))).all goodS = l'.all fun x => isT n x.er := by
        intro l'
        induction l' with
        | nil => intro _; rfl
        | cons x l' ih' =>
          intro hm
          rw [preL, List.all_append, List.all_cons, ih' (fun y hy => hm y (List.mem_cons_of_mem _ hy)), wrap_id (by omega) (by omega), ih x (hm x (List.mem_cons_self ..)) n (d + 1) (by omega) (by omega)]
      rw [hl l (fun _ h => h), isT_succ]
      have e1 : goodS (d, Sc.mk k A c l) = decide ((l.length : Int) = arI k) := by
        show (decide (d ≤ 16) && decide ((l.length : Int) = arI k)) = _
        rw [decide_eq_true (by omega), Bool.true_and]
      rw [e1]

set_option maxHeartbeats 400000 in
theorem Is_any (s : Sc) (w : World) (hin : s.In w.heap.size w) : Calls Tryz.prog 38 #[s.val] w (RetV w (.bool (isT 16 s.er))) := by
  rw [← good_pre s 16 1 (by omega) (by omega)]
  exact Is_pre s w hin
end Go.Proofs.YtdbohojncbeajaaGreat.S2

namespace Go.Proofs.YtdbohojncbeajaaGreat.V4
open Go.RowKit Go.Shelf
open S2 (Sc isT allocB)
open C3 (isC belAl)

set_option maxRecDepth 100000 in
set_option maxHeartbeats 1000000 in
theorem formed_4 (A : Option Addr) (c : Nat) (il : List Sc) (n m : Int) (sA : Option Addr) (sc : Nat) (ss : List Str) (cA : Option Addr) (cc : Nat) (cs : List Ck) (vA : Option Addr) (vc : Nat) (vs : List Vl) (w : World)
    (hin : InT w (Sc.mk 4 A c il, Vl.mk n m sA sc ss cA cc cs vA vc vs)) (hok : OkS (Sc.mk 4 A c il)) :
    Calls Tryz.prog 59 #[.agg #[.int .i64 4, .slice A il.length c, .int .u64 n, .int .u64 m, .slice sA ss.length sc, .slice cA cs.length cc, .slice vA vs.length vc]] w
      (RetV w (.bool (textsS ss && (decide (vs.length = ss.length) && filledT (Sc.mk 4 A c il, Vl.mk n m sA sc ss cA cc cs vA vc vs))))) := by
  obtain ⟨V, hV⟩ : ∃ V, ((w.alloc (.cells #[.int .i64 4, .slice A il.length c, .int .u64 n, .int .u64 m, .slice sA ss.length sc, .slice cA cs.length cc, .slice vA vs.length vc] 94)).alloc (.cells #[.int .u64 n, .int .u64 m, .slice sA ss.length sc, .slice cA cs.length cc, .slice vA vs.length vc] 29)) = V := ⟨_, rfl⟩
  have hB0 : Below w.heap.size w V := by rw [← hV]; exact belAl (belAl (Below.refl _ _))
  have hsz : V.heap.size = w.heap.size + 2 := by rw [← hV]; simp
  have hcT : ∀ i v, (cellsT (Sc.mk 4 A c il, Vl.mk n m sA sc ss cA cc cs vA vc vs))[i]? = some v → V.cell? ⟨w.heap.size, i, none⟩ = some v := fun i v h => by
    rw [← hV]
    exact ((belAl1 (Below.refl (w.heap.size + 1) (w.alloc (.cells (cellsT (Sc.mk 4 A c il, Vl.mk n m sA sc ss cA cc cs vA vc vs)) 94))) (by simp)).cell (p := ⟨w.heap.size, i, none⟩) (by simp)).trans (alloc_cells i v h)
  have hcV : ∀ i v, (#[.int .u64 n, .int .u64 m, .slice sA ss.length sc, .slice cA cs.length cc, .slice vA vs.length vc] : Array Value)[i]? = some v → V.cell? ⟨w.heap.size + 1, i, none⟩ = some v := fun i v h => by
    rw [← hV]
    exact alloc2_cell i v h
  have hp := (hin.2.later hB0).out
  have HC := Lib.hid (texts_any sA sc ss V hp.sl (by have := hp.sb; omega) hp.st)
  have HF : Hid (∀ Z, Below V.heap.size V Z → Calls Tryz.prog 80 #[valT (Sc.mk 4 A c il, Vl.mk n m sA sc ss cA cc cs vA vc vs)] Z (RetV Z (.bool (filledT (Sc.mk 4 A c il, Vl.mk n m sA sc ss cA cc cs vA vc vs))))) := fun Z hZ =>
    filled_any _ Z ((hin.later hB0).later hZ) hok (.inr (okS_ins hok (.inl rfl)))
  obtain ⟨fl, hfl⟩ : ∃ fl, filledT (Sc.mk 4 A c il, Vl.mk n m sA sc ss cA cc cs vA vc vs) = fl := ⟨_, rfl⟩
  obtain ⟨q, hq⟩ : ∃ q, textsS ss = q := ⟨_, rfl⟩
  rw [hfl] at HF ⊢
  rw [hq] at HC ⊢
  clear hp hin hok hfl hq
  have t0 := hcT 0 _ rfl
  have t1 := hcT 1 _ rfl
  have t2 := hcT 2 _ rfl
  have t3 := hcT 3 _ rfl
  have t4 := hcT 4 _ rfl
  have t5 := hcT 5 _ rfl
  have t6 := hcT 6 _ rfl
  have g2 := hcV 2 _ rfl
  have g4 := hcV 4 _ rfl
  simp only [valT, cellsT, Sc.k, Sc.v1, Vl.n, Vl.m, Vl.s1, Vl.c1, Vl.v1] at t0 t1 t2 t3 t4 t5 t6 HF
  clear hcV hcT
  go_enter Tryz.func59, Tryz.ntmps59
  go_wp2_with fail
  clear hV
  refine HC.out.mono ?_
  clear HC
  rintro e w3 ⟨rfl, hb⟩
  have HF3 := Lib.hid (HF.out w3 hb)
  clear HF
  have hB3 := hB0.trans (hb.mono hB0.size)
  replace t0 := (hb.cell (p := ⟨w.heap.size, 0, none⟩) (by simp only; omega)).trans t0
  replace t1 := (hb.cell (p := ⟨w.heap.size, 1, none⟩) (by simp only; omega)).trans t1
  replace t2 := (hb.cell (p := ⟨w.heap.size, 2, none⟩) (by simp only; omega)).trans t2
  replace t3 := (hb.cell (p := ⟨w.heap.size, 3, none⟩) (by simp only; omega)).trans t3
  replace t4 := (hb.cell (p := ⟨w.heap.size, 4, none⟩) (by simp only; omega)).trans t4
  replace t5 := (hb.cell (p := ⟨w.heap.size, 5, none⟩) (by simp only; omega)).trans t5
  replace t6 := (hb.cell (p := ⟨w.heap.size, 6, none⟩) (by simp only; omega)).trans t6
  replace g2 := (hb.cell (p := ⟨w.heap.size + 1, 2, none⟩) (by simp only; omega)).trans g2
  replace g4 := (hb.cell (p := ⟨w.heap.size + 1, 4, none⟩) (by simp only; omega)).trans g4
  clear hb hB0 hsz
  cases q with
  | false =>
    go_wp2_with fail
    go_ret
    exact ⟨rfl, hB3⟩
  | true =>
    by_cases hl : vs.length = ss.length
    · have kl : ((vs.length : Int) == (ss.length : Int)) = true := ibeq (by omega)
      have HLL := Lib.hid hl
      clear hl
      go_wp2_with fail
      refine HF3.out.mono ?_
      rintro e w4 ⟨rfl, hb4⟩
      go_wp2_with fail
      go_ret
      exact ⟨ret_bool (by rw [decide_eq_true HLL.out]; rfl), hB3.trans (hb4.mono hB3.size)⟩
    · have kl : ((vs.length : Int) == (ss.length : Int)) = false := ibne (by omega)
      have HLL := Lib.hid hl
      clear hl
      go_wp2_with fail
      go_ret
      exact ⟨ret_bool (by rw [decide_eq_false HLL.out]; rfl), hB3⟩

/-- A value alone is right. -/
def rightT (x : Sc × Vl) : Bool := flagsK x.1.k x.2.n x.2.m x.2.ss.length x.2.cs.length x.2.vs.length && formK x.1.k x.2.n x.2.m x.2.ss x.2.cs x.2.vs.length (filledT x)

theorem formed_any (k : Int) (A : Option Addr) (c : Nat) (il : List Sc) (n m : Int) (sA : Option Addr) (sc : Nat) (ss : List Str) (cA : Option Addr) (cc : Nat) (cs : List Ck) (vA : Option Addr) (vc : Nat) (vs : List Vl) (w : World)
    (hin : InT w (Sc.mk k A c il, Vl.mk n m sA sc ss cA cc cs vA vc vs)) (hok : OkS (Sc.mk k A c il)) (fl : Bool) (hfl : filledT (Sc.mk k A c il, Vl.mk n m sA sc ss cA cc cs vA vc vs) = fl) :
    Calls Tryz.prog 59 #[.agg #[.int .i64 k, .slice A il.length c, .int .u64 n, .int .u64 m, .slice sA ss.length sc, .slice cA cs.length cc, .slice vA vs.length vc]] w (RetV w (.bool (formK k n m ss cs vs.length fl))) := by
  unfold formK
  by_cases h1 : k = 1
  · subst h1; exact formed_1 A c il n m sA sc ss cA cc cs vA vc vs w
  rw [if_neg h1]
  by_cases h2 : k = 2
  · subst h2; exact formed_2 A c il n m sA sc ss cA cc cs vA vc vs w hin.2
  rw [if_neg h2]
  by_cases h3 : k = 3
  · subst h3; exact formed_3 A c il n m sA sc ss cA cc cs vA vc vs w hin.2
  rw [if_neg h3]
  by_cases h4 : k = 4
  · subst h4
    have := formed_4 A c il n m sA sc ss cA cc cs vA vc vs w hin hok
    rw [hfl] at this
    exact this
  rw [if_neg h4]
  by_cases h5 : k = 5
  · subst h5; exact formed_5 A c il n m sA sc ss cA cc cs vA vc vs w
  rw [if_neg h5]
  by_cases h6 : k = 6
  · subst h6; exact formed_6 A c il n m sA sc ss cA cc cs vA vc vs w hin.2
  rw [if_neg h6]
  by_cases h7 : k = 7
  · subst h7; exact formed_7 A c il n m sA sc ss cA cc cs vA vc vs w hin.2
  rw [if_neg h7]
  by_cases h8 : k = 8
  · subst h8; exact formed_8 A c il n m sA sc ss cA cc cs vA vc vs w hin.2
  rw [if_neg h8]
  exact formed_0 k (by omega) A c il n m sA sc ss cA cc cs vA vc vs w

theorem right_any (x : Sc × Vl) (w : World) (hin : InT w x) (hok : OkS x.1) : Calls Tryz.prog 42 #[valT x] w (RetV w (.bool (rightT x))) := by
  obtain ⟨⟨k, A, c, il⟩, n, m, sA, sc, ss, cA, cc, cs, vA, vc, vs⟩ := x
  exact right_of k A c il n m sA sc ss cA cc cs vA vc vs w _ _ (fun Z => stripped_any k n m sA sc ss.length cA cc cs.length vA vc vs.length Z)
    (fun Z hZ => formed_any k A c il n m sA sc ss cA cc cs vA vc vs Z (hin.later hZ) hok _ rfl)
end Go.Proofs.YtdbohojncbeajaaGreat.V4
