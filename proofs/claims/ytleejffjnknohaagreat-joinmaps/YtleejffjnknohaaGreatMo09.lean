/- What value.blank and value.stripped do. No condition. What value.written, value.idle do, and slices.IndexFunc, slices.ContainsFunc with idle. No condition but that what is handed in lies in memory. What value.byTick, slices.CompareFunc with it, cmp.Or of two, cmp.Compare of numbers do. No condition but that the ticks lie in memory. The library contracts that this program can use, laid at its numbers. No condition. What strings.Compare, join.byTick, join.byTicks, slices.Compare of texts, join.byWriter do. No condition but that what they take lies in memory. -/
import Derived.Test.YtleejffjnknohaaGreatMo08
import Derived.Shelf.Small.Strs
import Derived.Ground.Names2Prog
import Derived.Shelf.Slices.Clone
import Derived.Test.YtleejffjnknohaaGreatProg
import Derived.Test.YtleejffjnknohaaGreatMo05
namespace Go.Proofs.YtleejffjnknohaaGreat.V4
open Go.RowKit


set_option maxHeartbeats 1000000 in
theorem blank_any (n m : Int) (sA : Option Addr) (sc a : Nat) (cA : Option Addr) (cc b : Nat) (vA : Option Addr) (vc d : Nat) (w : World) : Calls Tryz.prog 59 #[.agg #[.int .u64 n, .int .u64 m, .slice sA a sc, .slice cA b cc, .slice vA d vc]] w (RetV w (.bool (hasN n m a b d false false false false false))) := by
  have belB : Below w.heap.size w (w.alloc (.cells #[.int .u64 n, .int .u64 m, .slice sA a sc, .slice cA b cc, .slice vA d vc] 32)) := C3.belAl (Below.refl _ _)
  by_cases h0 : n = 0
  case neg =>
    have HR : Hid (hasN n m a b d false false false false false = false) := by show hasN _ _ _ _ _ _ _ _ _ _ = _; simp [hasN, h0]
    have k0 : (n == 0) = false := by simp; omega
    clear h0
    go_enter Tryz.func59, Tryz.ntmps59
    go_wp2_with fail
    go_ret
    exact ⟨ret_bool HR.out.symm, belB⟩
  by_cases h1 : m = 0
  case neg =>
    have HR : Hid (hasN n m a b d false false false false false = false) := by show hasN _ _ _ _ _ _ _ _ _ _ = _; simp [hasN, h0, h1]
    have k0 : (n == 0) = true := by simp [h0]
    have k1 : (m == 0) = false := by simp; omega
    clear h0 h1
    go_enter Tryz.func59, Tryz.ntmps59
    go_wp2_with fail
    go_ret
    exact ⟨ret_bool HR.out.symm, belB⟩
  by_cases h2 : a = 0
  case neg =>
    have HR : Hid (hasN n m a b d false false false false false = false) := by show hasN _ _ _ _ _ _ _ _ _ _ = _; simp [hasN, h0, h1, h2]
    have k0 : (n == 0) = true := by simp [h0]
    have k1 : (m == 0) = true := by simp [h1]
    have k2 : ((a : Int) == 0) = false := by simp; omega
    clear h0 h1 h2
    go_enter Tryz.func59, Tryz.ntmps59
    go_wp2_with fail
    go_ret
    exact ⟨ret_bool HR.out.symm, belB⟩
  by_cases h3 : b = 0
  case neg =>
    have HR : Hid (hasN n m a b d false false false false false = false) := by show hasN _ _ _ _ _ _ _ _ _ _ = _; simp [hasN, h0, h1, h2, h3]
    have k0 : (n == 0) = true := by simp [h0]
    have k1 : (m == 0) = true := by simp [h1]
    have k2 : ((a : Int) == 0) = true := by simp; omega
    have k3 : ((b : Int) == 0) = false := by simp; omega
    clear h0 h1 h2 h3
    go_enter Tryz.func59, Tryz.ntmps59
    go_wp2_with fail
    go_ret
    exact ⟨ret_bool HR.out.symm, belB⟩
  by_cases h4 : d = 0
  case neg =>
    have HR : Hid (hasN n m a b d false false false false false = false) := by show hasN _ _ _ _ _ _ _ _ _ _ = _; simp [hasN, h0, h1, h2, h3, h4]
    have k0 : (n == 0) = true := by simp [h0]
    have k1 : (m == 0) = true := by simp [h1]
    have k2 : ((a : Int) == 0) = true := by simp; omega
    have k3 : ((b : Int) == 0) = true := by simp; omega
    have k4 : ((d : Int) == 0) = false := by simp; omega
    clear h0 h1 h2 h3 h4
    go_enter Tryz.func59, Tryz.ntmps59
    go_wp2_with fail
    go_ret
    exact ⟨ret_bool HR.out.symm, belB⟩
  have HR : Hid (hasN n m a b d false false false false false = true) := by show hasN _ _ _ _ _ _ _ _ _ _ = _; simp [hasN, h0, h1, h2, h3, h4]
  have k0 : (n == 0) = true := by simp [h0]
  have k1 : (m == 0) = true := by simp [h1]
  have k2 : ((a : Int) == 0) = true := by simp [h2]
  have k3 : ((b : Int) == 0) = true := by simp [h3]
  have k4 : ((d : Int) == 0) = true := by simp [h4]
  clear h0 h1 h2 h3 h4
  go_enter Tryz.func59, Tryz.ntmps59
  go_wp2_with fail
  go_ret
  exact ⟨ret_bool HR.out.symm, belB⟩

/-- A call that answers a value of which blank says v. -/
def RetB (w : World) (v : Bool) (e : Ending) (w' : World) : Prop := ∃ (n m : Int) (sA : Option Addr) (sc a : Nat) (cA : Option Addr) (cc b : Nat) (vA : Option Addr) (vc d : Nat), e = .returned (.agg #[.int .u64 n, .int .u64 m, .slice sA a sc, .slice cA b cc, .slice vA d vc]) ∧ hasN n m a b d false false false false false = v ∧ Below w.heap.size w w'

set_option maxHeartbeats 1000000 in
theorem stripped_1 (n m : Int) (sA : Option Addr) (sc a : Nat) (cA : Option Addr) (cc b : Nat) (vA : Option Addr) (vc d : Nat) (w : World) : Calls Tryz.prog 60 #[.int .i64 1, .agg #[.int .u64 n, .int .u64 m, .slice sA a sc, .slice cA b cc, .slice vA d vc]] w (RetB w (hasN n m a b d true false false false false)) := by
  go_enter Tryz.func60, Tryz.ntmps60
  go_wp2_with fail
  refine bodyPost_ret (results_cellV rfl _ _ (w.heap.size + 1) (.int .u64 0) (.int .u64 m) (.slice sA a sc) (.slice cA b cc) (.slice vA d vc) rfl (by go_simp) (by go_simp) (by go_simp) (by go_simp) (by go_simp)) rfl ?_
  refine ⟨_, _, _, _, _, _, _, _, _, _, _, rfl, by simp [hasN], ?_⟩
  exact C3.belAl (C3.belAl (Below.refl _ _))

set_option maxHeartbeats 1000000 in
theorem stripped_2 (n m : Int) (sA : Option Addr) (sc a : Nat) (cA : Option Addr) (cc b : Nat) (vA : Option Addr) (vc d : Nat) (w : World) : Calls Tryz.prog 60 #[.int .i64 2, .agg #[.int .u64 n, .int .u64 m, .slice sA a sc, .slice cA b cc, .slice vA d vc]] w (RetB w (hasN n m a b d true false false false false)) := by
  go_enter Tryz.func60, Tryz.ntmps60
  go_wp2_with fail
  refine bodyPost_ret (results_cellV rfl _ _ (w.heap.size + 1) (.int .u64 0) (.int .u64 m) (.slice sA a sc) (.slice cA b cc) (.slice vA d vc) rfl (by go_simp) (by go_simp) (by go_simp) (by go_simp) (by go_simp)) rfl ?_
  refine ⟨_, _, _, _, _, _, _, _, _, _, _, rfl, by simp [hasN], ?_⟩
  exact C3.belAl (C3.belAl (Below.refl _ _))

set_option maxHeartbeats 1000000 in
theorem stripped_3 (n m : Int) (sA : Option Addr) (sc a : Nat) (cA : Option Addr) (cc b : Nat) (vA : Option Addr) (vc d : Nat) (w : World) : Calls Tryz.prog 60 #[.int .i64 3, .agg #[.int .u64 n, .int .u64 m, .slice sA a sc, .slice cA b cc, .slice vA d vc]] w (RetB w (hasN n m a b d false false true false false)) := by
  go_enter Tryz.func60, Tryz.ntmps60
  go_wp2_with fail
  refine bodyPost_ret (results_cellV rfl _ _ (w.heap.size + 1) (.int .u64 n) (.int .u64 m) (.slice none 0 0) (.slice cA b cc) (.slice vA d vc) rfl (by go_simp) (by go_simp) (by go_simp) (by go_simp) (by go_simp)) rfl ?_
  refine ⟨_, _, _, _, _, _, _, _, _, _, _, rfl, by simp [hasN], ?_⟩
  exact C3.belAl (C3.belAl (Below.refl _ _))

set_option maxHeartbeats 1000000 in
theorem stripped_4 (n m : Int) (sA : Option Addr) (sc a : Nat) (cA : Option Addr) (cc b : Nat) (vA : Option Addr) (vc d : Nat) (w : World) : Calls Tryz.prog 60 #[.int .i64 4, .agg #[.int .u64 n, .int .u64 m, .slice sA a sc, .slice cA b cc, .slice vA d vc]] w (RetB w (hasN n m a b d false false true false true)) := by
  go_enter Tryz.func60, Tryz.ntmps60
  go_wp2_with fail
  refine bodyPost_ret (results_cellV rfl _ _ (w.heap.size + 1) (.int .u64 n) (.int .u64 m) (.slice none 0 0) (.slice cA b cc) (.slice none 0 0) rfl (by go_simp) (by go_simp) (by go_simp) (by go_simp) (by go_simp)) rfl ?_
  refine ⟨_, _, _, _, _, _, _, _, _, _, _, rfl, by simp [hasN], ?_⟩
  exact C3.belAl (C3.belAl (Below.refl _ _))

set_option maxHeartbeats 1000000 in
theorem stripped_5 (n m : Int) (sA : Option Addr) (sc a : Nat) (cA : Option Addr) (cc b : Nat) (vA : Option Addr) (vc d : Nat) (w : World) : Calls Tryz.prog 60 #[.int .i64 5, .agg #[.int .u64 n, .int .u64 m, .slice sA a sc, .slice cA b cc, .slice vA d vc]] w (RetB w (hasN n m a b d false false false false true)) := by
  go_enter Tryz.func60, Tryz.ntmps60
  go_wp2_with fail
  refine bodyPost_ret (results_cellV rfl _ _ (w.heap.size + 1) (.int .u64 n) (.int .u64 m) (.slice sA a sc) (.slice cA b cc) (.slice none 0 0) rfl (by go_simp) (by go_simp) (by go_simp) (by go_simp) (by go_simp)) rfl ?_
  refine ⟨_, _, _, _, _, _, _, _, _, _, _, rfl, by simp [hasN], ?_⟩
  exact C3.belAl (C3.belAl (Below.refl _ _))

set_option maxHeartbeats 1000000 in
theorem stripped_6 (n m : Int) (sA : Option Addr) (sc a : Nat) (cA : Option Addr) (cc b : Nat) (vA : Option Addr) (vc d : Nat) (w : World) : Calls Tryz.prog 60 #[.int .i64 6, .agg #[.int .u64 n, .int .u64 m, .slice sA a sc, .slice cA b cc, .slice vA d vc]] w (RetB w (hasN n m a b d true true true false false)) := by
  go_enter Tryz.func60, Tryz.ntmps60
  go_wp2_with fail
  refine bodyPost_ret (results_cellV rfl _ _ (w.heap.size + 1) (.int .u64 0) (.int .u64 0) (.slice none 0 0) (.slice cA b cc) (.slice vA d vc) rfl (by go_simp) (by go_simp) (by go_simp) (by go_simp) (by go_simp)) rfl ?_
  refine ⟨_, _, _, _, _, _, _, _, _, _, _, rfl, by simp [hasN], ?_⟩
  exact C3.belAl (C3.belAl (Below.refl _ _))

set_option maxHeartbeats 1000000 in
theorem stripped_7 (n m : Int) (sA : Option Addr) (sc a : Nat) (cA : Option Addr) (cc b : Nat) (vA : Option Addr) (vc d : Nat) (w : World) : Calls Tryz.prog 60 #[.int .i64 7, .agg #[.int .u64 n, .int .u64 m, .slice sA a sc, .slice cA b cc, .slice vA d vc]] w (RetB w (hasN n m a b d false false false true false)) := by
  go_enter Tryz.func60, Tryz.ntmps60
  go_wp2_with fail
  refine bodyPost_ret (results_cellV rfl _ _ (w.heap.size + 1) (.int .u64 n) (.int .u64 m) (.slice sA a sc) (.slice none 0 0) (.slice vA d vc) rfl (by go_simp) (by go_simp) (by go_simp) (by go_simp) (by go_simp)) rfl ?_
  refine ⟨_, _, _, _, _, _, _, _, _, _, _, rfl, by simp [hasN], ?_⟩
  exact C3.belAl (C3.belAl (Below.refl _ _))

set_option maxHeartbeats 1000000 in
theorem stripped_8 (n m : Int) (sA : Option Addr) (sc a : Nat) (cA : Option Addr) (cc b : Nat) (vA : Option Addr) (vc d : Nat) (w : World) : Calls Tryz.prog 60 #[.int .i64 8, .agg #[.int .u64 n, .int .u64 m, .slice sA a sc, .slice cA b cc, .slice vA d vc]] w (RetB w (hasN n m a b d false false false true true)) := by
  go_enter Tryz.func60, Tryz.ntmps60
  go_wp2_with fail
  refine bodyPost_ret (results_cellV rfl _ _ (w.heap.size + 1) (.int .u64 n) (.int .u64 m) (.slice sA a sc) (.slice none 0 0) (.slice none 0 0) rfl (by go_simp) (by go_simp) (by go_simp) (by go_simp) (by go_simp)) rfl ?_
  refine ⟨_, _, _, _, _, _, _, _, _, _, _, rfl, by simp [hasN], ?_⟩
  exact C3.belAl (C3.belAl (Below.refl _ _))

set_option maxHeartbeats 1000000 in
theorem stripped_0 (k : Int) (h : ¬ (1 ≤ k ∧ k ≤ 8)) (n m : Int) (sA : Option Addr) (sc a : Nat) (cA : Option Addr) (cc b : Nat) (vA : Option Addr) (vc d : Nat) (w : World) : Calls Tryz.prog 60 #[.int .i64 k, .agg #[.int .u64 n, .int .u64 m, .slice sA a sc, .slice cA b cc, .slice vA d vc]] w (RetB w (hasN n m a b d false false false false false)) := by
  have k1 : (k == 1) = false := by simp; omega
  have k2 : (k == 2) = false := by simp; omega
  have k3 : (k == 3) = false := by simp; omega
  have k4 : (k == 4) = false := by simp; omega
  have k5 : (k == 5) = false := by simp; omega
  have k6 : (k == 6) = false := by simp; omega
  have k7 : (k == 7) = false := by simp; omega
  have k8 : (k == 8) = false := by simp; omega
  clear h
  go_enter Tryz.func60, Tryz.ntmps60
  go_wp2_with fail
  refine bodyPost_ret (results_cellV rfl _ _ (w.heap.size + 1) (.int .u64 n) (.int .u64 m) (.slice sA a sc) (.slice cA b cc) (.slice vA d vc) rfl (by go_simp) (by go_simp) (by go_simp) (by go_simp) (by go_simp)) rfl ?_
  refine ⟨_, _, _, _, _, _, _, _, _, _, _, rfl, by simp [hasN], ?_⟩
  exact C3.belAl (C3.belAl (Below.refl _ _))

end Go.Proofs.YtleejffjnknohaaGreat.V4

namespace Go.Proofs.YtleejffjnknohaaGreat.V4
open Go.RowKit
open C3 (RetIx Tk isC)

/-- There is a last writer, and what it wrote is something. -/
def writtenV (n m : Int) (ss : List Str) : Bool := match ss with
  | [s] => !longS s && (decide (n ≠ 0) || (decide (m ≠ 0) || decide (s ≠ [])))
  | _ => false

theorem ibeq {a b : Int} (h : a = b) : (a == b) = true := beq_iff_eq.2 h
theorem ibne {a b : Int} (h : a ≠ b) : (a == b) = false := beq_eq_false_iff_ne.2 h
theorem ibnn {a b : Int} (h : a ≠ b) : (a != b) = true := by simp [h]
theorem beqS_nil (s : Str) : (s == []) = decide (s = []) := by cases s <;> rfl

set_option maxRecDepth 100000 in
set_option maxHeartbeats 1000000 in
theorem written_any (n m : Int) (sA : Option Addr) (sc : Nat) (ss : List Str) (cA : Option Addr) (cc b : Nat) (vA : Option Addr) (vc d : Nat) (w : World) (hn : 0 ≤ n) (hm : 0 ≤ m) (hl : Lies w sA ss) (hlm : ss.length ≤ maxLen) (ht : ∀ s ∈ ss, s.length ≤ maxLen) :
    Calls Tryz.prog 86 #[.agg #[.int .u64 n, .int .u64 m, .slice sA ss.length sc, .slice cA b cc, .slice vA d vc]] w (RetV w (.bool (writtenV n m ss))) := by
  have belB : Below w.heap.size w (w.alloc (.cells #[.int .u64 n, .int .u64 m, .slice sA ss.length sc, .slice cA b cc, .slice vA d vc] 32)) := C3.belAl (Below.refl _ _)
  by_cases h1 : ss.length = 1
  · obtain ⟨s, rfl⟩ : ∃ s, ss = [s] := List.length_eq_one_iff.1 h1
    clear h1
    obtain ⟨bb, off, rfl, hb, hc⟩ := hl.get (k := 0) (by simp)
    have hc0 := hc 0 s rfl
    rw [Nat.add_zero] at hc0
    have hs : s.length ≤ maxLen := ht s (by simp)
    clear hc hl ht hlm
    have HL := Lib.hid (long_any s (w.alloc (.cells #[.int .u64 n, .int .u64 m, .slice (some ⟨bb, off, none⟩) [s].length sc, .slice cA b cc, .slice vA d vc] 32)) hs)
    simp only [List.length_cons, List.length_nil, Nat.zero_add] at HL belB ⊢
    obtain ⟨q, hq⟩ : ∃ q, longS s = q := ⟨_, rfl⟩
    have hw : writtenV n m [s] = (!q && (decide (n ≠ 0) || (decide (m ≠ 0) || decide (s ≠ [])))) := by simp only [writtenV, hq]
    rw [hw]
    rw [hq] at HL
    clear hw hq hs
    go_enter Tryz.func86, Tryz.ntmps86
    go_wp2_with fail
    refine HL.out.mono ?_
    clear HL
    rintro e w' ⟨rfl, hb2⟩
    have hbb := belB.trans (hb2.mono belB.size)
    have e0 := (hb2.cell (p := ⟨w.heap.size, 0, none⟩) (by simp)).trans (alloc_cells 0 _ rfl)
    have e1 := (hb2.cell (p := ⟨w.heap.size, 1, none⟩) (by simp)).trans (alloc_cells 1 _ rfl)
    have e2 := (hb2.cell (p := ⟨w.heap.size, 2, none⟩) (by simp)).trans (alloc_cells 2 _ rfl)
    have f0 := (hbb.cell (p := ⟨bb, off, none⟩) hb).trans hc0
    have hbl := World.block_lt_of_cell? w' _ f0
    simp only at hbl
    clear hb2 belB hc0
    cases q with
    | true =>
      go_wp2_with fail
      go_ret
      exact ⟨rfl, hbb⟩
    | false =>
      by_cases hn0 : n = 0
      · have kn : decide (0 < n) = false := decide_eq_false (by omega)
        by_cases hm0 : m = 0
        · have km : decide (0 < m) = false := decide_eq_false (by omega)
          have HR : Hid ((!decide (s = [])) = (!false && (decide (n ≠ 0) || (decide (m ≠ 0) || decide (s ≠ []))))) := by show _ = _; simp [hn0, hm0]
          by_cases hs0 : s = []
          · have ks : (s == []) = true := by rw [beqS_nil]; exact decide_eq_true hs0
            clear hn0 hm0 hn hm
            go_wp2_with fail
            go_ret
            refine ⟨ret_bool ?_, hbb⟩
            rw [← HR.out, decide_eq_true hs0]; rfl
          · have ks : (s == []) = false := by rw [beqS_nil]; exact decide_eq_false hs0
            clear hn0 hm0 hn hm
            go_wp2_with fail
            go_ret
            refine ⟨ret_bool ?_, hbb⟩
            rw [← HR.out, decide_eq_false hs0]; rfl
        · have km : 0 < m := by omega
          have HR : Hid (true = (!false && (decide (n ≠ 0) || (decide (m ≠ 0) || decide (s ≠ []))))) := by show _ = _; simp [hn0, hm0]
          clear hn0 hm0 hn hm
          go_wp2_with fail
          go_ret
          exact ⟨ret_bool HR.out, hbb⟩
      · have kn : 0 < n := by omega
        have HR : Hid (true = (!false && (decide (n ≠ 0) || (decide (m ≠ 0) || decide (s ≠ []))))) := by show _ = _; simp [hn0]
        clear hn0 hn hm
        go_wp2_with fail
        go_ret
        exact ⟨ret_bool HR.out, hbb⟩
  · have hw : writtenV n m ss = false := by
      unfold writtenV
      split
      · simp at h1
      · rfl
    rw [hw]
    have k1 : ((ss.length : Int) != 1) = true := ibnn (by omega)
    clear h1 hw hl ht hlm
    go_enter Tryz.func86, Tryz.ntmps86
    go_wp2_with fail
    go_ret
    exact ⟨rfl, belB⟩

def idleC (c : Ck) : Bool := decide (c.l.length = 0) || !isC c.l

set_option maxHeartbeats 400000 in
theorem idle_any (c : Ck) (w : World) (h : InC w c) : Calls Tryz.prog 88 #[c.v] w (RetV w (.bool (idleC c))) := by
  have HI := Lib.hid (C3.Is_any c.A c.c c.l w (Ck.Inp.inn h))
  unfold idleC
  clear h
  obtain ⟨A, cp, l⟩ := c
  simp only [Ck.v] at HI ⊢
  by_cases h0 : l.length = 0
  · have k0 : ((l.length : Int) == 0) = true := ibeq (by omega)
    rw [decide_eq_true h0]
    clear h0
    go_enter Tryz.func88, Tryz.ntmps88
    go_wp2_with fail
    go_ret
    exact ⟨rfl, Below.refl _ _⟩
  · have k0 : ((l.length : Int) == 0) = false := ibne (by omega)
    rw [decide_eq_false h0]
    clear h0
    go_enter Tryz.func88, Tryz.ntmps88
    go_wp2_with fail
    refine HI.out.mono ?_
    rintro e w' ⟨rfl, hb⟩
    go_wp2_with fail
    go_ret
    exact ⟨rfl, hb⟩
set_option maxHeartbeats 400000 in
theorem indexIdle_any (A : Option Addr) (c : Nat) (cs : List Ck) (w : World) (hl : LiesC (fun b => b < w.heap.size) w A (cellsC cs)) (hn : cs.length ≤ maxLen) (ht : ∀ k ∈ cs, InC w k) :
    Calls Tryz.prog 115 #[.slice A cs.length c, .func (.func 88) #[] #[]] w (RetIx w (cs.any idleC)) := by
  have hlm : cs.length ≤ 9223372036854775807 := by unfold maxLen at hn; omega
  clear hn
  have HT := Lib.hid ht
  clear ht
  go_enter Tryz.func115, Tryz.ntmps115
  go_wp2_with fail
  go_loopw [8] (fun iv wr => ∃ k : Nat, k ≤ cs.length ∧ iv = .int .i64 k ∧ Hid ((cs.take k).any idleC = false) ∧ Below w.heap.size w wr) (fun iv _ => cs.length - (intOf iv).toNat)
  case atStart => exact ⟨0, Nat.zero_le _, rfl, by simp [Hid], Below.refl _ _⟩
  case round =>
    obtain ⟨k, hk, rfl, h0, hbw⟩ := hrel
    by_cases hlt : k < cs.length
    · obtain ⟨x, hx⟩ : ∃ x, cs[k]? = some x := ⟨_, List.getElem?_eq_getElem hlt⟩
      obtain ⟨b, off, rfl, hb, hc⟩ := clock_at (hl.below hbw) hx
      have hc0 := hc
      have HX := Lib.hid hx
      clear hx hc hl
      obtain ⟨q, hq⟩ : ∃ q, idleC x = q := ⟨_, rfl⟩
      have HQ := Lib.hid hq
      clear hq
      go_wp2_with fail
      refine (idle_any x wr ((HT.out x (List.mem_of_getElem? HX.out)).later hbw)).mono ?_
      rintro e w' ⟨rfl, hb2⟩
      have hb3 : Below w.heap.size w w' := hbw.trans (hb2.mono hbw.size)
      rw [HQ.out]
      cases q with
      | true =>
        go_wp2_with fail
        go_ret
        exact ⟨_, rfl, (by rw [any_yes HX.out HQ.out]; exact decide_eq_true (by omega)), hb3⟩
      | false =>
        go_wp2_with fail
        go_roundw
        case rel => exact ⟨k + 1, by omega, by go_num, any_succ h0.out HX.out HQ.out, hb3⟩
        case measure => simp [intOf]; omega
    · go_wp2_with fail
      go_ret
      exact ⟨_, rfl, (by rw [any_end h0.out (by omega)]; rfl), hbw⟩

set_option maxHeartbeats 400000 in
theorem containsIdle_any (A : Option Addr) (c : Nat) (cs : List Ck) (w : World) (hl : LiesC (fun b => b < w.heap.size) w A (cellsC cs)) (hn : cs.length ≤ maxLen) (ht : ∀ k ∈ cs, InC w k) :
    Calls Tryz.prog 87 #[.slice A cs.length c, .func (.func 88) #[] #[]] w (RetV w (.bool (cs.any idleC))) := by
  have HA := Lib.hid (indexIdle_any A c cs w hl hn ht)
  clear hl hn ht
  go_enter Tryz.func87, Tryz.ntmps87
  go_wp2_with fail
  refine HA.out.mono ?_
  rintro e w' ⟨i, rfl, hi, hb⟩
  have HI := Lib.hid hi
  clear hi
  go_wp2_with fail
  go_ret
  exact ⟨ret_bool HI.out, hb⟩

end Go.Proofs.YtleejffjnknohaaGreat.V4

namespace Go.Proofs.YtleejffjnknohaaGreat.V4
open Go.RowKit
open C3 (Tk In cmpI cmpI_lt cmpI_gt cmpI_eq compare_any belAl allocB)

set_option maxHeartbeats 400000 in
theorem isNaNU_any (x : Int) (w : World) : Calls Tryz.prog 124 #[.int .u64 x] w fun e w' => e = .returned (.bool false) ∧ w = w' := by
  go_enter Tryz.func124, Tryz.ntmps124
  go_wp2
  go_ret
  exact ⟨rfl, rfl⟩

set_option maxHeartbeats 400000 in
theorem compareU_any (x y : Int) (w : World) : Calls Tryz.prog 96 #[.int .u64 x, .int .u64 y] w fun e w' => e = .returned (.int .i64 (cmpI x y)) ∧ w = w' := by
  rcases Int.lt_trichotomy x y with h | h | h
  · rw [cmpI_lt h]
    go_enter Tryz.func96, Tryz.ntmps96
    go_wp2_with (go_at_call 124; refine (isNaNU_any _ _).mono ?_; rintro e w' ⟨rfl, rfl⟩)
    go_ret
    exact ⟨rfl, rfl⟩
  · subst h
    rw [cmpI_eq]
    go_enter Tryz.func96, Tryz.ntmps96
    go_wp2_with (go_at_call 124; refine (isNaNU_any _ _).mono ?_; rintro e w' ⟨rfl, rfl⟩)
    go_ret
    exact ⟨rfl, rfl⟩
  · rw [cmpI_gt h]
    have h1 : ¬ x < y := by omega
    go_enter Tryz.func96, Tryz.ntmps96
    go_wp2_with (go_at_call 124; refine (isNaNU_any _ _).mono ?_; rintro e w' ⟨rfl, rfl⟩)
    go_ret
    exact ⟨rfl, rfl⟩

/-- The first of two that is not 0. -/
def orI (x y : Int) : Int := if x = 0 then y else x

set_option maxHeartbeats 400000 in
theorem or_any (b : Nat) (x y : Int) (w : World) (h0 : w.cell? ⟨b, 0, none⟩ = some (.int .i64 x)) (h1 : w.cell? ⟨b, 1, none⟩ = some (.int .i64 y)) :
    Calls Tryz.prog 95 #[.slice (some ⟨b, 0, none⟩) 2 2] w fun e w' => e = .returned (.int .i64 (orI x y)) ∧ w = w' := by
  go_enter Tryz.func95, Tryz.ntmps95
  go_wp2_with fail
  go_loopw [8] (fun iv wr => ∃ k : Nat, k ≤ 2 ∧ iv = .int .i64 k ∧ wr = w ∧ Hid (1 ≤ k → x = 0) ∧ Hid (2 ≤ k → y = 0)) (fun iv _ => 2 - (intOf iv).toNat)
  case atStart => exact ⟨0, Nat.zero_le _, rfl, rfl, fun h => by omega, fun h => by omega⟩
  case round =>
    obtain ⟨k, hk, rfl, rfl, g0, g1⟩ := hrel
    rcases (by omega : k = 0 ∨ k = 1 ∨ k = 2) with rfl | rfl | rfl
    · by_cases hx : x = 0
      · have k1 : (x != 0) = false := by simp [hx]
        go_wp2_with fail
        go_roundw
        case rel => exact ⟨1, by omega, by go_num, trivial, fun _ => hx, fun h => by omega⟩
        case measure => simp [intOf]
      · have k1 : (x != 0) = true := by simp [hx]
        go_wp2_with fail
        go_ret
        exact ⟨by rw [orI, if_neg hx]; rfl, rfl⟩
    · have hx : x = 0 := g0.out (by omega)
      by_cases hy : y = 0
      · have k1 : (y != 0) = false := by simp [hy]
        have HX := Lib.hid hx
        clear hx
        go_wp2_with fail
        go_roundw
        case rel => exact ⟨2, by omega, by go_num, trivial, fun _ => HX.out, fun _ => hy⟩
        case measure => simp [intOf]
      · have k1 : (y != 0) = true := by simp [hy]
        have HX := Lib.hid hx
        clear hx
        go_wp2_with fail
        go_ret
        exact ⟨by rw [orI, if_pos HX.out]; rfl, rfl⟩
    · have HX := Lib.hid (g0.out (by omega))
      have HY := Lib.hid (g1.out (by omega))
      go_wp2_with fail
      go_ret
      exact ⟨by rw [orI, if_pos HX.out, HY.out]; rfl, rfl⟩

/-- By Who, then by N. -/
def tickI (x y : Tk) : Int := orI (cmpI x.k y.k) (cmpI x.n y.n)

set_option maxHeartbeats 1000000 in
theorem byTick_any (xk xn yk yn : Int) (w : World) : Calls Tryz.prog 120 #[.agg #[.int .i64 xk, .int .u64 xn], .agg #[.int .i64 yk, .int .u64 yn]] w (RetV w (.int .i64 (tickI ⟨xk, xn⟩ ⟨yk, yn⟩))) := by
  obtain ⟨p, hp⟩ : ∃ p, cmpI xk yk = p := ⟨_, rfl⟩
  obtain ⟨q, hq⟩ : ∃ q, cmpI xn yn = q := ⟨_, rfl⟩
  have HP := Lib.hid hp
  have HQ := Lib.hid hq
  have HR : Hid (tickI ⟨xk, xn⟩ ⟨yk, yn⟩ = orI p q) := by show tickI _ _ = _; unfold tickI; rw [← hp, ← hq]
  clear hp hq
  go_enter Tryz.func120, Tryz.ntmps120
  go_wp2_with fail
  have e0 : ((w.alloc (.cells #[.int .i64 xk, .int .u64 xn] 57)).alloc (.cells #[.int .i64 yk, .int .u64 yn] 57)).cell? ⟨w.heap.size, 0, none⟩ = some (.int .i64 xk) := by simp [World.cell?_alloc_past]
  have e1 : ((w.alloc (.cells #[.int .i64 xk, .int .u64 xn] 57)).alloc (.cells #[.int .i64 yk, .int .u64 yn] 57)).cell? ⟨w.heap.size, 1, none⟩ = some (.int .u64 xn) := by simp [World.cell?_alloc_past]
  have e2 : ((w.alloc (.cells #[.int .i64 xk, .int .u64 xn] 57)).alloc (.cells #[.int .i64 yk, .int .u64 yn] 57)).cell? ⟨w.heap.size + 1, 0, none⟩ = some (.int .i64 yk) := by simp
  have e3 : ((w.alloc (.cells #[.int .i64 xk, .int .u64 xn] 57)).alloc (.cells #[.int .i64 yk, .int .u64 yn] 57)).cell? ⟨w.heap.size + 1, 1, none⟩ = some (.int .u64 yn) := by simp
  have hB0 : Below w.heap.size w ((w.alloc (.cells #[.int .i64 xk, .int .u64 xn] 57)).alloc (.cells #[.int .i64 yk, .int .u64 yn] 57)) := belAl (belAl (Below.refl _ _))
  have hsz : w.heap.size + 2 ≤ ((w.alloc (.cells #[.int .i64 xk, .int .u64 xn] 57)).alloc (.cells #[.int .i64 yk, .int .u64 yn] 57)).heap.size := by simp
  have hs0 : w.heap.size < ((w.alloc (.cells #[.int .i64 xk, .int .u64 xn] 57)).alloc (.cells #[.int .i64 yk, .int .u64 yn] 57)).heap.size := by omega
  have hs1 : w.heap.size + 1 < ((w.alloc (.cells #[.int .i64 xk, .int .u64 xn] 57)).alloc (.cells #[.int .i64 yk, .int .u64 yn] 57)).heap.size := by omega
  generalize ((w.alloc (.cells #[.int .i64 xk, .int .u64 xn] 57)).alloc (.cells #[.int .i64 yk, .int .u64 yn] 57)) = W0 at *
  go_region_held3 (fun w' => w'.cell? ⟨w.heap.size, 0, none⟩ = some (.int .i64 xk) ∧ w'.cell? ⟨w.heap.size, 1, none⟩ = some (.int .u64 xn) ∧ w'.cell? ⟨w.heap.size + 1, 0, none⟩ = some (.int .i64 yk) ∧ w'.cell? ⟨w.heap.size + 1, 1, none⟩ = some (.int .u64 yn))
    (first
      | with_reducible exact ⟨e0, e1, e2, e3⟩
      | (refine ⟨?_, ?_, ?_, ?_⟩ <;> go_simp))
    (first
      | (go_at_call 126; refine (compare_any xk yk _).mono ?_; rintro e w4 ⟨rfl, rfl⟩; rw [HP.out])
      | (go_at_call 96; refine (compareU_any xn yn _).mono ?_; rintro e w4 ⟨rfl, rfl⟩; rw [HQ.out])
      | (go_at_call 95; refine (or_any _ p q _ (by simp) (by simp)).mono ?_; rintro e w4 ⟨rfl, rfl⟩))
  all_goals (
    go_wp2_with fail
    go_ret
    exact ⟨by rw [HR.out]; rfl, (belAl hB0).drew⟩)

theorem tickI_lt {x y : Tk} (h : x.k < y.k) : tickI x y = -1 := by unfold tickI; rw [cmpI_lt h]; rfl
theorem tickI_gt {x y : Tk} (h : y.k < x.k) : tickI x y = 1 := by unfold tickI; rw [cmpI_gt h]; rfl
theorem tickI_k {x y : Tk} (h : x.k = y.k) : tickI x y = cmpI x.n y.n := by unfold tickI; rw [h, cmpI_eq]; rfl
theorem tickI_ne {x y : Tk} {a b : List Tk} {i : Nat} (hx : a[i]? = some x) (hy : b[i]? = some y) (h : tickI x y ≠ 0) : decide (0 ≤ tickI x y) = !aheadC (a.drop i) (b.drop i) := by
  rw [aheadC_drop hx hy]
  rcases Int.lt_trichotomy x.k y.k with hk | hk | hk
  · have h1 : ¬ x.k = y.k := by omega
    rw [tickI_lt hk, if_neg h1, decide_eq_true hk]; rfl
  · rw [tickI_k hk] at h ⊢
    rw [if_pos hk]
    rcases Int.lt_trichotomy x.n y.n with hn | hn | hn
    · have h1 : ¬ x.n = y.n := by omega
      rw [cmpI_lt hn, if_neg h1, decide_eq_true hn]; rfl
    · exact absurd (by rw [hn, cmpI_eq]) h
    · have h1 : ¬ x.n = y.n := by omega
      have h2 : ¬ x.n < y.n := by omega
      rw [cmpI_gt hn, if_neg h1, decide_eq_false h2]; rfl
  · have h1 : ¬ x.k = y.k := by omega
    have h2 : ¬ x.k < y.k := by omega
    rw [tickI_gt hk, if_neg h1, decide_eq_false h2]; rfl
theorem tickI_eq {x y : Tk} {a b : List Tk} {i : Nat} (hx : a[i]? = some x) (hy : b[i]? = some y) (h : tickI x y = 0) : aheadC (a.drop i) (b.drop i) = aheadC (a.drop (i + 1)) (b.drop (i + 1)) := by
  rw [aheadC_drop hx hy]
  rcases Int.lt_trichotomy x.k y.k with hk | hk | hk
  · rw [tickI_lt hk] at h; omega
  · rw [tickI_k hk] at h
    rw [if_pos hk]
    rcases Int.lt_trichotomy x.n y.n with hn | hn | hn
    · rw [cmpI_lt hn] at h; omega
    · rw [if_pos hn]
    · rw [cmpI_gt hn] at h; omega
  · rw [tickI_gt hk] at h; omega

set_option maxHeartbeats 1000000 in
theorem compareFunc_any (A A' : Option Addr) (c c' : Nat) (l l' : List Tk) (w : World) (h : In w A c l) (h' : In w A' c' l') :
    Calls Tryz.prog 105 #[.slice A l.length c, .slice A' l'.length c', .func (.func 120) #[] #[]] w (C3.RetIx w (!aheadC l l')) := by
  obtain ⟨hl, hcap, htop, -⟩ := h
  obtain ⟨hl', hcap', htop', -⟩ := h'
  have hlm : l.length ≤ 9223372036854775807 := by unfold maxLen at htop; omega
  have hlm' : l'.length ≤ 9223372036854775807 := by unfold maxLen at htop'; omega
  clear hcap htop hcap' htop'
  go_enter Tryz.func105, Tryz.ntmps105
  go_wp2_with fail
  go_loopw [13] (fun iv wr => ∃ k : Nat, k ≤ l.length ∧ k ≤ l'.length ∧ iv = .int .i64 k ∧ Hid (aheadC l l' = aheadC (l.drop k) (l'.drop k)) ∧ Below w.heap.size w wr) (fun iv _ => l.length - (intOf iv).toNat)
  case atStart => exact ⟨0, Nat.zero_le _, Nat.zero_le _, rfl, rfl, Below.refl _ _⟩
  case round =>
    obtain ⟨k, hk, hk', rfl, h0, hbw⟩ := hrel
    by_cases hlt : k < l.length
    · obtain ⟨b, off, rfl, hb, hc⟩ := (hl.below hbw).get hlt
      obtain ⟨x, hx⟩ : ∃ x, l[k]? = some x := ⟨_, List.getElem?_eq_getElem hlt⟩
      obtain ⟨hc0, hc1⟩ := hc k x hx
      have HX := Lib.hid hx
      clear hx hc hl
      obtain ⟨xk, xn⟩ := x
      dsimp only at hc0 hc1
      by_cases hlt' : k < l'.length
      · obtain ⟨b', off', rfl, hb', hc'⟩ := (hl'.below hbw).get hlt'
        obtain ⟨y, hy⟩ : ∃ y, l'[k]? = some y := ⟨_, List.getElem?_eq_getElem hlt'⟩
        obtain ⟨hd0, hd1⟩ := hc' k y hy
        have HY := Lib.hid hy
        clear hy hc' hl'
        obtain ⟨yk, yn⟩ := y
        dsimp only at hd0 hd1
        have hbb : b < wr.heap.size := World.block_lt_of_cell? wr _ hc0
        have hbb' : b' < wr.heap.size := World.block_lt_of_cell? wr _ hd0
        have d1 : ¬ (l'.length ≤ k) := by omega
        obtain ⟨q, hq⟩ : ∃ q, tickI ⟨xk, xn⟩ ⟨yk, yn⟩ = q := ⟨_, rfl⟩
        have HQ := Lib.hid hq
        clear hq
        have f0 : (wr.alloc (.cells #[.int .i64 xk, .int .u64 xn] 57)).cell? ⟨b', off' + k * 2, none⟩ = some (.int .i64 yk) := (World.cell?_alloc_past _ _ _ hbb').trans hd0
        have f1 : (wr.alloc (.cells #[.int .i64 xk, .int .u64 xn] 57)).cell? ⟨b', off' + k * 2 + 1, none⟩ = some (.int .u64 yn) := (World.cell?_alloc_past _ _ _ hbb').trans hd1
        go_wp2_with fail
        refine (byTick_any xk xn yk yn _).mono ?_
        rintro e w' ⟨rfl, hb2⟩
        rw [HQ.out]
        have hb3 : Below w.heap.size w w' := hbw.trans (((belAl (belAl (Below.refl _ _))).trans (hb2.mono (by simp; omega))).mono hbw.size)
        by_cases hq0 : q = 0
        · have k0 : (q != 0) = false := by simp [hq0]
          clear hb2
          go_wp2_with fail
          go_roundw
          case rel => exact ⟨k + 1, by omega, by omega, by go_num, by show _ = _; rw [h0.out]; exact tickI_eq HX.out HY.out (HQ.out.trans hq0), hb3⟩
          case measure => simp [intOf]; omega
        · have k0 : (q != 0) = true := by simp [hq0]
          clear hb2
          go_wp2_with fail
          go_ret
          refine ⟨_, rfl, ?_, hb3⟩
          rw [h0.out, ← tickI_ne HX.out HY.out (by rw [HQ.out]; exact hq0), HQ.out]
      · have d1 : l'.length ≤ k := by omega
        have HNL : Hid (¬ l.length < l'.length) := by show ¬ _; omega
        go_wp2_with fail
        go_ret
        refine ⟨_, rfl, ?_, belAl hbw⟩
        rw [h0.out, aheadC_end (.inr d1) hk hk', decide_eq_false HNL.out]
        rfl
    · by_cases hll : l.length < l'.length
      · go_wp2_with fail
        go_ret
        refine ⟨_, rfl, ?_, hbw⟩
        rw [h0.out, aheadC_end (.inl (by omega)) hk hk', decide_eq_true hll]
        rfl
      · go_wp2_with fail
        go_ret
        refine ⟨_, rfl, ?_, hbw⟩
        rw [h0.out, aheadC_end (.inl (by omega)) hk hk', decide_eq_false hll]
        rfl
end Go.Proofs.YtleejffjnknohaaGreat.V4

namespace Go.Proofs
open Go.Shelf
open Go.RowKit in
def Tryz.lays106_ren : Go.Shelf.Ren := ⟨fun | 106 => 64 | 213 => 94 | 265 => 123 | n => n, fun | 9 => 9 | 3 => 3 | n => n, fun | n => n⟩
theorem Tryz.lays106 : Go.Proofs.Lays.n106 Tryz.prog Tryz.lays106_ren := {
  mixed := by kernel_rfl
  f106 := Tryz.func64.trans (congrArg some (by kernel_rfl))
  f213 := Tryz.func94.trans (congrArg some (by kernel_rfl))
  f265 := Tryz.func123.trans (congrArg some (by kernel_rfl))
  t3 := Tryz.underlying3
  a3 := Tryz.isAgg3
  z3 := Tryz.sizeOf3
  v3 := Tryz.zeroValue3
  t9 := Tryz.underlying9
  a9 := Tryz.isAgg9
  z9 := Tryz.sizeOf9
  v9 := Tryz.zeroValue9 }
open Go.RowKit in
theorem Tryz.strings_Compare (a b : ByteArray) (w : World) :
    Calls Tryz.prog 64 #[.string a, .string b] w fun e w' => e = .returned (.int .i64 (Lib.compareBytes a.data.toList b.data.toList)) ∧ w' = w := Any.strings_Compare Tryz.lays106 a b w
def Tryz.laysNm216_ren : Go.Shelf.Ren := ⟨fun | 16 => 68 | n => n, fun | 24 => 29 | 9 => 9 | 4 => 4 | n => n, fun | n => n⟩
theorem Tryz.laysNm216 : Go.Proofs.Lays2.n16 Tryz.prog Tryz.laysNm216_ren := {
  mixed := by kernel_rfl
  f16 := Tryz.func68.trans (congrArg some (by kernel_rfl))
  t4 := Tryz.underlying4
  a4 := Tryz.isAgg4
  z4 := Tryz.sizeOf4
  v4 := Tryz.zeroValue4
  t9 := Tryz.underlying9
  a9 := Tryz.isAgg9
  z9 := Tryz.sizeOf9
  v9 := Tryz.zeroValue9
  t24 := Tryz.underlying29
  a24 := Tryz.isAgg29
  z24 := Tryz.sizeOf29
  v24 := Tryz.zeroValue29
  i9 := by kernel_rfl }
open Go.RowKit Go.Lib in
theorem Tryz.slices_Clone_string (b off n c : Nat) (zs : List ByteArray) (w : World) (hz : n ≤ zs.length) (hbig : n * 16 ≤ 140737488355328) (hc : ∀ j, j < zs.length → w.cell? ⟨b, off + j, none⟩ = some (.string (zs.getD j ByteArray.empty))) :
    Calls Tryz.prog 68 #[.slice (some ⟨b, off, none⟩) n c] w fun e w' => ∃ v', e = .returned v' ∧ w'.ownsRow w.heap.size 9 1 v' n ((zs.take n).map (Value.string)) ∧ v' ≠ .slice none 0 0 ∧ Below w.heap.size w w' := Any.slices_Clone_string Tryz.laysNm216 b off n c zs w hz hbig hc
open Go.RowKit Go.Lib in
theorem Tryz.slices_Clone_string_nil (n c : Nat) (w : World) :
    Calls Tryz.prog 68 #[.slice none n c] w fun e w' => e = .returned (.slice none 0 0) ∧ w' = w := Any.slices_Clone_string_nil Tryz.laysNm216 n c w
open Go.RowKit Go.Lib in
theorem Tryz.slices_Clone_string_zero (a : Addr) (c : Nat) (w : World) :
    Calls Tryz.prog 68 #[.slice (some a) 0 c] w fun e w' => ∃ v', e = .returned v' ∧ w'.ownsRow w.heap.size 9 1 v' 0 [] ∧ v' ≠ .slice none 0 0 ∧ Below w.heap.size w w' := Any.slices_Clone_string_zero Tryz.laysNm216 a c w
end Go.Proofs

namespace Go.Proofs.YtleejffjnknohaaGreat.J5
open Go.RowKit
open C3 (Tk In cmpI cmpI_lt cmpI_gt cmpI_eq compare_any belAl allocB)
open V4 (tickI orI or_any compareU_any aheadC)

theorem cmpB_S : ∀ x y : Str, Lib.compareBytes x y = cmpS x y
  | [], [] => by unfold cmpS; simp [Lib.compareBytes]
  | [], y :: b => by unfold cmpS; simp [Lib.compareBytes]
  | x :: a, [] => by unfold cmpS; simp [Lib.compareBytes]
  | x :: a, y :: b => by
    rw [Lib.compareBytes, cmpB_S a b]
    unfold cmpS
    by_cases h1 : x < y
    · rw [if_pos h1, if_pos (List.cons_lt_cons_iff.2 (.inl h1))]
    · rw [if_neg h1]
      by_cases h2 : y < x
      · rw [if_pos h2, if_neg (fun h => by
          rcases List.cons_lt_cons_iff.1 h with h | ⟨h, _⟩
          · exact h1 h
          · subst h; exact h1 h2), if_pos (List.cons_lt_cons_iff.2 (.inl h2))]
      · rw [if_neg h2]
        have e : x = y := UInt8.le_antisymm (UInt8.not_lt.1 h2) (UInt8.not_lt.1 h1)
        subst e
        simp

theorem strCmp_any (x y : Str) (w : World) : Calls Tryz.prog 64 #[.string (S x), .string (S y)] w (RetV w (.int .i64 (cmpS x y))) := by
  refine (Go.Proofs.Tryz.strings_Compare (S x) (S y) w).mono ?_
  rintro e w' ⟨rfl, rfl⟩
  refine ⟨?_, Below.refl _ _⟩
  rw [← cmpB_S]
  rfl

/-- The order of rows of ticks, as slices.CompareFunc tells it. -/
def rowI : List Tk → List Tk → Int
  | [], [] => 0
  | [], _ :: _ => -1
  | _ :: _, [] => 1
  | x :: a, y :: b => if tickI x y = 0 then rowI a b else tickI x y
theorem rowI_drop {a b : List Tk} {i : Nat} {x y : Tk} (hx : a[i]? = some x) (hy : b[i]? = some y) : rowI (a.drop i) (b.drop i) = if tickI x y = 0 then rowI (a.drop (i + 1)) (b.drop (i + 1)) else tickI x y := by
  obtain ⟨hi, he⟩ := List.getElem?_eq_some_iff.1 hx
  obtain ⟨hj, hf⟩ := List.getElem?_eq_some_iff.1 hy
  rw [List.drop_eq_getElem_cons hi, List.drop_eq_getElem_cons hj, he, hf, rowI]
theorem rowI_eq0 {a b : List Tk} {i : Nat} {x y : Tk} (hx : a[i]? = some x) (hy : b[i]? = some y) (h : tickI x y = 0) : rowI (a.drop i) (b.drop i) = rowI (a.drop (i + 1)) (b.drop (i + 1)) := by rw [rowI_drop hx hy, if_pos h]
theorem rowI_ne {a b : List Tk} {i : Nat} {x y : Tk} (hx : a[i]? = some x) (hy : b[i]? = some y) (h : tickI x y ≠ 0) : rowI (a.drop i) (b.drop i) = tickI x y := by rw [rowI_drop hx hy, if_neg h]
theorem rowI_gt {a b : List Tk} {i : Nat} (h1 : i < a.length) (h2 : b.length ≤ i) (_ : i ≤ b.length) : rowI (a.drop i) (b.drop i) = 1 := by
  rw [List.drop_eq_getElem_cons h1, List.drop_of_length_le h2, rowI]
theorem rowI_lt {a b : List Tk} {i : Nat} (h1 : a.length ≤ i) (_ : i ≤ a.length) (h2 : i < b.length) : rowI (a.drop i) (b.drop i) = -1 := by
  rw [List.drop_eq_getElem_cons h2, List.drop_of_length_le h1, rowI]
theorem rowI_end {a b : List Tk} {i : Nat} (h1 : a.length ≤ i) (h2 : b.length ≤ i) : rowI (a.drop i) (b.drop i) = 0 := by
  rw [List.drop_of_length_le h1, List.drop_of_length_le h2, rowI]
theorem rowI_T : ∀ a b : List Tk, rowI a b = cmpT a b
  | [], [] => by unfold cmpT; simp [rowI, aheadC]
  | [], y :: b => by unfold cmpT; simp [rowI, aheadC]
  | x :: a, [] => by unfold cmpT; simp [rowI, aheadC]
  | x :: a, y :: b => by
    rw [rowI, rowI_T a b]
    unfold cmpT
    rw [aheadC, aheadC]
    rcases Int.lt_trichotomy x.k y.k with hk | hk | hk
    · rw [V4.tickI_lt hk, if_neg (by decide), if_neg (show ¬ x.k = y.k by omega), if_pos (decide_eq_true hk)]
    · rw [V4.tickI_k hk, if_pos hk, if_pos hk.symm]
      rcases Int.lt_trichotomy x.n y.n with hn | hn | hn
      · rw [cmpI_lt hn, if_neg (by decide), if_neg (show ¬ x.n = y.n by omega), if_pos (decide_eq_true hn)]
      · rw [hn, cmpI_eq, if_pos rfl, if_pos rfl, if_pos rfl]
      · rw [cmpI_gt hn, if_neg (by decide), if_neg (show ¬ x.n = y.n by omega), if_neg (show ¬ decide (x.n < y.n) = true by simp; omega), if_neg (show ¬ y.n = x.n by omega), if_pos (decide_eq_true hn)]
    · rw [V4.tickI_gt hk, if_neg (by decide), if_neg (show ¬ x.k = y.k by omega), if_neg (show ¬ decide (x.k < y.k) = true by simp; omega), if_neg (show ¬ y.k = x.k by omega), if_pos (decide_eq_true hk)]

set_option maxHeartbeats 1000000 in
theorem jbyTick_any (xk xn yk yn : Int) (w : World) : Calls Tryz.prog 106 #[.agg #[.int .i64 xk, .int .u64 xn], .agg #[.int .i64 yk, .int .u64 yn]] w (RetV w (.int .i64 (tickI ⟨xk, xn⟩ ⟨yk, yn⟩))) := by
  obtain ⟨p, hp⟩ : ∃ p, cmpI xk yk = p := ⟨_, rfl⟩
  obtain ⟨q, hq⟩ : ∃ q, cmpI xn yn = q := ⟨_, rfl⟩
  have HP := Lib.hid hp
  have HQ := Lib.hid hq
  have HR : Hid (tickI ⟨xk, xn⟩ ⟨yk, yn⟩ = orI p q) := by show tickI _ _ = _; unfold tickI; rw [← hp, ← hq]
  clear hp hq
  go_enter Tryz.func106, Tryz.ntmps106
  go_wp2_with fail
  have e0 : ((w.alloc (.cells #[.int .i64 xk, .int .u64 xn] 57)).alloc (.cells #[.int .i64 yk, .int .u64 yn] 57)).cell? ⟨w.heap.size, 0, none⟩ = some (.int .i64 xk) := by simp [World.cell?_alloc_past]
  have e1 : ((w.alloc (.cells #[.int .i64 xk, .int .u64 xn] 57)).alloc (.cells #[.int .i64 yk, .int .u64 yn] 57)).cell? ⟨w.heap.size, 1, none⟩ = some (.int .u64 xn) := by simp [World.cell?_alloc_past]
  have e2 : ((w.alloc (.cells #[.int .i64 xk, .int .u64 xn] 57)).alloc (.cells #[.int .i64 yk, .int .u64 yn] 57)).cell? ⟨w.heap.size + 1, 0, none⟩ = some (.int .i64 yk) := by simp
  have e3 : ((w.alloc (.cells #[.int .i64 xk, .int .u64 xn] 57)).alloc (.cells #[.int .i64 yk, .int .u64 yn] 57)).cell? ⟨w.heap.size + 1, 1, none⟩ = some (.int .u64 yn) := by simp
  have hB0 : Below w.heap.size w ((w.alloc (.cells #[.int .i64 xk, .int .u64 xn] 57)).alloc (.cells #[.int .i64 yk, .int .u64 yn] 57)) := belAl (belAl (Below.refl _ _))
  have hsz : w.heap.size + 2 ≤ ((w.alloc (.cells #[.int .i64 xk, .int .u64 xn] 57)).alloc (.cells #[.int .i64 yk, .int .u64 yn] 57)).heap.size := by simp
  have hs0 : w.heap.size < ((w.alloc (.cells #[.int .i64 xk, .int .u64 xn] 57)).alloc (.cells #[.int .i64 yk, .int .u64 yn] 57)).heap.size := by omega
  have hs1 : w.heap.size + 1 < ((w.alloc (.cells #[.int .i64 xk, .int .u64 xn] 57)).alloc (.cells #[.int .i64 yk, .int .u64 yn] 57)).heap.size := by omega
  generalize ((w.alloc (.cells #[.int .i64 xk, .int .u64 xn] 57)).alloc (.cells #[.int .i64 yk, .int .u64 yn] 57)) = W0 at *
  go_region_held3 (fun w' => w'.cell? ⟨w.heap.size, 0, none⟩ = some (.int .i64 xk) ∧ w'.cell? ⟨w.heap.size, 1, none⟩ = some (.int .u64 xn) ∧ w'.cell? ⟨w.heap.size + 1, 0, none⟩ = some (.int .i64 yk) ∧ w'.cell? ⟨w.heap.size + 1, 1, none⟩ = some (.int .u64 yn))
    (first
      | with_reducible exact ⟨e0, e1, e2, e3⟩
      | (refine ⟨?_, ?_, ?_, ?_⟩ <;> go_simp))
    (first
      | (go_at_call 126; refine (compare_any xk yk _).mono ?_; rintro e w4 ⟨rfl, rfl⟩; rw [HP.out])
      | (go_at_call 96; refine (compareU_any xn yn _).mono ?_; rintro e w4 ⟨rfl, rfl⟩; rw [HQ.out])
      | (go_at_call 95; refine (or_any _ p q _ (by simp) (by simp)).mono ?_; rintro e w4 ⟨rfl, rfl⟩))
  all_goals (
    go_wp2_with fail
    go_ret
    exact ⟨by rw [HR.out]; rfl, (belAl hB0).drew⟩)

set_option maxHeartbeats 1000000 in
theorem jcompareFunc_any (A A' : Option Addr) (c c' : Nat) (l l' : List Tk) (w : World) (h : In w A c l) (h' : In w A' c' l') :
    Calls Tryz.prog 105 #[.slice A l.length c, .slice A' l'.length c', .func (.func 106) #[] #[]] w (RetV w (.int .i64 (rowI l l'))) := by
  obtain ⟨hl, hcap, htop, -⟩ := h
  obtain ⟨hl', hcap', htop', -⟩ := h'
  have hlm : l.length ≤ 9223372036854775807 := by unfold maxLen at htop; omega
  have hlm' : l'.length ≤ 9223372036854775807 := by unfold maxLen at htop'; omega
  clear hcap htop hcap' htop'
  go_enter Tryz.func105, Tryz.ntmps105
  go_wp2_with fail
  go_loopw [13] (fun iv wr => ∃ k : Nat, k ≤ l.length ∧ k ≤ l'.length ∧ iv = .int .i64 k ∧ Hid (rowI l l' = rowI (l.drop k) (l'.drop k)) ∧ Below w.heap.size w wr) (fun iv _ => l.length - (intOf iv).toNat)
  case atStart => exact ⟨0, Nat.zero_le _, Nat.zero_le _, rfl, rfl, Below.refl _ _⟩
  case round =>
    obtain ⟨k, hk, hk', rfl, h0, hbw⟩ := hrel
    by_cases hlt : k < l.length
    · obtain ⟨b, off, rfl, hb, hc⟩ := (hl.below hbw).get hlt
      obtain ⟨x, hx⟩ : ∃ x, l[k]? = some x := ⟨_, List.getElem?_eq_getElem hlt⟩
      obtain ⟨hc0, hc1⟩ := hc k x hx
      have HX := Lib.hid hx
      clear hx hc hl
      obtain ⟨xk, xn⟩ := x
      dsimp only at hc0 hc1
      by_cases hlt' : k < l'.length
      · obtain ⟨b', off', rfl, hb', hc'⟩ := (hl'.below hbw).get hlt'
        obtain ⟨y, hy⟩ : ∃ y, l'[k]? = some y := ⟨_, List.getElem?_eq_getElem hlt'⟩
        obtain ⟨hd0, hd1⟩ := hc' k y hy
        have HY := Lib.hid hy
        clear hy hc' hl'
        obtain ⟨yk, yn⟩ := y
        dsimp only at hd0 hd1
        have hbb : b < wr.heap.size := World.block_lt_of_cell? wr _ hc0
        have hbb' : b' < wr.heap.size := World.block_lt_of_cell? wr _ hd0
        have d1 : ¬ (l'.length ≤ k) := by omega
        obtain ⟨q, hq⟩ : ∃ q, tickI ⟨xk, xn⟩ ⟨yk, yn⟩ = q := ⟨_, rfl⟩
        have HQ := Lib.hid hq
        clear hq
        have f0 : (wr.alloc (.cells #[.int .i64 xk, .int .u64 xn] 57)).cell? ⟨b', off' + k * 2, none⟩ = some (.int .i64 yk) := (World.cell?_alloc_past _ _ _ hbb').trans hd0
        have f1 : (wr.alloc (.cells #[.int .i64 xk, .int .u64 xn] 57)).cell? ⟨b', off' + k * 2 + 1, none⟩ = some (.int .u64 yn) := (World.cell?_alloc_past _ _ _ hbb').trans hd1
        go_wp2_with fail
        refine (jbyTick_any xk xn yk yn _).mono ?_
        rintro e w' ⟨rfl, hb2⟩
        rw [HQ.out]
        have hb3 : Below w.heap.size w w' := hbw.trans (((belAl (belAl (Below.refl _ _))).trans (hb2.mono (by simp; omega))).mono hbw.size)
        by_cases hq0 : q = 0
        · have k0 : (q != 0) = false := by simp [hq0]
          clear hb2
          go_wp2_with fail
          go_roundw
          case rel => exact ⟨k + 1, by omega, by omega, by go_num, by show _ = _; rw [h0.out]; exact rowI_eq0 HX.out HY.out (HQ.out.trans hq0), hb3⟩
          case measure => simp [intOf]; omega
        · have k0 : (q != 0) = true := by simp [hq0]
          clear hb2
          go_wp2_with fail
          go_ret
          refine ⟨ret_int ?_, hb3⟩
          rw [h0.out, rowI_ne HX.out HY.out (by rw [HQ.out]; exact hq0), HQ.out]
      · have d1 : l'.length ≤ k := by omega
        have HNL : Hid (¬ l.length < l'.length) := by show ¬ _; omega
        go_wp2_with fail
        go_ret
        refine ⟨ret_int ?_, belAl hbw⟩
        rw [h0.out, rowI_gt hlt d1 hk']
    · by_cases hll : l.length < l'.length
      · go_wp2_with fail
        go_ret
        refine ⟨ret_int ?_, hbw⟩
        rw [h0.out, rowI_lt (by omega) hk (by omega)]
      · go_wp2_with fail
        go_ret
        refine ⟨ret_int ?_, hbw⟩
        rw [h0.out, rowI_end (by omega) (by omega)]

set_option maxHeartbeats 400000 in
theorem byTicks_any (A A' : Option Addr) (c c' : Nat) (l l' : List Tk) (w : World) (h : In w A c l) (h' : In w A' c' l') :
    Calls Tryz.prog 73 #[.slice A l.length c, .slice A' l'.length c'] w (RetV w (.int .i64 (cmpT l l'))) := by
  rw [← rowI_T]
  have HC := Lib.hid (jcompareFunc_any A A' c c' l l' w h h')
  clear h h'
  go_enter Tryz.func73, Tryz.ntmps73
  go_wp2_with fail
  refine HC.out.mono ?_
  rintro e w' ⟨rfl, hb⟩
  go_wp2_with fail
  go_ret
  exact ⟨rfl, hb⟩
end Go.Proofs.YtleejffjnknohaaGreat.J5
