/- What SchemaDeep does: it answers true. No condition. -/
import Derived.Test.YtohmgidmfabimaaPsm
namespace Go.Proofs.Ytohmgidmfabimaa
open Go.RowKit

/-- j steps of nesting. -/
def Ch : Nat → Tr → Prop
  | 0, t => t = .mk 1 []
  | j + 1, t => ∃ t', Ch j t' ∧ (t = .mk 4 [t'] ∨ t = .mk 5 [.mk 2 [], t'])

theorem isT_mk (n : Nat) (k : Int) (l : List Tr) : isT (n + 1) (.mk k l) = (decide ((l.length : Int) = arI k) && l.all (isT n)) := rfl
theorem deepT_mk (n : Nat) (k : Int) (l : List Tr) : deepT (n + 1) (.mk k l) = (l.map (deepT n)).foldl max 0 + 1 := rfl

theorem ch_is {j : Nat} : ∀ {t : Tr} (n : Nat), Ch j t → isT n t = decide (j + 1 ≤ n) := by
  induction j with
  | zero =>
    rintro t n rfl
    cases n with
    | zero => rfl
    | succ n => rw [isT_mk]; simp [arI]
  | succ j ih =>
    rintro t n ⟨t', h, rfl | rfl⟩
    · cases n with
      | zero => rfl
      | succ n =>
        rw [isT_mk, List.all_cons, List.all_nil, ih n h]
        simp [arI]
    · cases n with
      | zero => rfl
      | succ n =>
        rw [isT_mk, List.all_cons, List.all_cons, List.all_nil, ih n h]
        cases n with
        | zero => rfl
        | succ n => rw [isT_mk]; simp [arI]

theorem ch_deep {j : Nat} : ∀ {t : Tr} (n : Nat), Ch j t → deepT n t = min (j + 1) n := by
  induction j with
  | zero =>
    rintro t n rfl
    cases n with
    | zero => rfl
    | succ n => rw [deepT_mk]; simp
  | succ j ih =>
    rintro t n ⟨t', h, rfl | rfl⟩
    · cases n with
      | zero => rfl
      | succ n =>
        rw [deepT_mk, List.map_cons, List.map_nil, ih n h]
        simp
    · cases n with
      | zero => rfl
      | succ n =>
        rw [deepT_mk, List.map_cons, List.map_cons, List.map_nil, ih n h]
        cases n with
        | zero => simp [deepT]
        | succ n => rw [deepT_mk]; simp

theorem cause_is (t : Tr) : isT 16 (causeT t) = isT 14 t := by
  show (decide _ && ([Tr.mk 5 [leanT, t]].all (isT 15))) = _
  simp only [List.all_cons, List.all_nil, Bool.and_true]
  have e : isT 15 (Tr.mk 5 [leanT, t]) = isT 14 t := by
    show (decide _ && ([leanT, t].all (isT 14))) = _
    simp only [List.all_cons, List.all_nil, Bool.and_true]
    rw [show isT 14 leanT = true by decide]
    simp [Tr.ins, Tr.k, arI]
  rw [e]
  simp [Tr.ins, Tr.k, arI, causeT]

theorem cause_level (t : Tr) (h : isT 16 (causeT t) = true) : levelT (causeT t) = 3 :=
  level_cause h (by show (8 : Int) ≠ 6; decide) (by simp [causalT, causeT])

/-- The variable at block B is given a new list. -/
def stW (wr : World) (B : Nat) (k : Int) (n : Nat) (cs : Array Value) : World :=
  ((wr.setCell ⟨B, 0, none⟩ (.int .i64 k)).setCell ⟨B, 1, none⟩ (.slice (some ⟨wr.heap.size, 0, none⟩) n n)).alloc (.cells cs 24)

section
variable {w wr : World} {B : Nat} {k : Int} {n : Nat} {cs : Array Value}
theorem stW_sz : ((wr.setCell ⟨B, 0, none⟩ (.int .i64 k)).setCell ⟨B, 1, none⟩ (.slice (some ⟨wr.heap.size, 0, none⟩) n n)).heap.size = wr.heap.size := by simp
theorem stW_size : (stW wr B k n cs).heap.size = wr.heap.size + 1 := by unfold stW; rw [World.size_alloc, stW_sz]
theorem stW_sz' : (((wr.setCell ⟨B, 0, none⟩ (.int .i64 k)).setCell ⟨B, 1, none⟩ (.slice (some ⟨wr.heap.size, 0, none⟩) n n)).alloc (.cells cs 24)).heap.size = wr.heap.size + 1 := stW_size
theorem stW_heap (b : Nat) (h1 : b < wr.heap.size) (h2 : b ≠ B) : (stW wr B k n cs).heap[b]? = wr.heap[b]? := by
  unfold stW
  rw [Below.heap_alloc _ _ _ (by rw [stW_sz]; exact h1), Below.heap_setCell _ _ _ _ h2, Below.heap_setCell _ _ _ _ h2]
theorem stW_new {i : Nat} {v : Value} (hv : cs[i]? = some v) : (stW wr B k n cs).cell? ⟨wr.heap.size, i, none⟩ = some v := cell_at_new stW_sz hv
theorem stW_var {u0 u1 : Value} (hB : B < wr.heap.size) (c0 : wr.cell? ⟨B, 0, none⟩ = some u0) (c1 : wr.cell? ⟨B, 1, none⟩ = some u1) (f0 : wr.frozen? ⟨B, 0, none⟩ = false) (f1 : wr.frozen? ⟨B, 1, none⟩ = false) :
    (stW wr B k n cs).cell? ⟨B, 0, none⟩ = some (.int .i64 k) ∧ (stW wr B k n cs).cell? ⟨B, 1, none⟩ = some (.slice (some ⟨wr.heap.size, 0, none⟩) n n) ∧ (stW wr B k n cs).frozen? ⟨B, 0, none⟩ = false ∧ (stW wr B k n cs).frozen? ⟨B, 1, none⟩ = false := by
  unfold stW
  rw [World.cell?_alloc_past _ _ _ (by rw [stW_sz]; exact hB), World.cell?_alloc_past _ _ _ (by rw [stW_sz]; exact hB), World.frozen?_alloc_past _ _ _ (by rw [stW_sz]; exact hB), World.frozen?_alloc_past _ _ _ (by rw [stW_sz]; exact hB)]
  refine ⟨?_, ?_, ?_, ?_⟩ <;> go_simp
theorem stW_in {s : Sc} (hs : s.Inp (fun b => b < wr.heap.size ∧ b ≠ B) wr) : s.Inp (fun b => b < (stW wr B k n cs).heap.size ∧ b ≠ B) (stW wr B k n cs) :=
  (hs.keep fun b hP => stW_heap b hP.1 hP.2).mono fun b hP => ⟨by rw [stW_size]; omega, hP.2⟩
theorem stW_below (h : Below w.heap.size w wr) (hB : w.heap.size ≤ B) : Below w.heap.size w (stW wr B k n cs) := belAl ((h.setCell hB _).setCell hB _)
end

set_option maxRecDepth 100000 in
set_option maxHeartbeats 4000000 in
theorem schemaDeep_all (n kinds : Int) (hn0 : 0 ≤ n) (hn1 : n ≤ 255) (w : World) : Calls Try.prog 4 #[.int .u8 n, .int .u32 kinds] w (RetV w (.bool true)) := by
  go_enter Try.func4, Try.ntmps4
  go_wp2_with fail
  refine (known_any _).mono ?_
  rintro e w1 ⟨rfl, hb1⟩
  obtain ⟨m, hm, hm20⟩ : ∃ m : Nat, n % 20 = m ∧ m < 20 := ⟨(n % 20).toNat, by omega, by omega⟩
  go_wp2_with fail
  have hb2 : Below w.heap.size w (w1.alloc (.cells #[.int .i64 1, .slice none 0 0] 24)) := belAl hb1
  go_loopw [7] (fun iv wr => ∃ (i : Nat) (sc : Sc), i ≤ m ∧ iv = .int .i64 i ∧ Hid (Ch i sc.er) ∧ sc.Inp (fun b => b < wr.heap.size ∧ b ≠ w1.heap.size) wr ∧ wr.cell? ⟨w1.heap.size, 0, none⟩ = some (.int .i64 sc.k) ∧ wr.cell? ⟨w1.heap.size, 1, none⟩ = some sc.v1 ∧
    wr.frozen? ⟨w1.heap.size, 0, none⟩ = false ∧ wr.frozen? ⟨w1.heap.size, 1, none⟩ = false ∧ w1.heap.size < wr.heap.size ∧ Below w.heap.size w wr) (fun iv _ => m - (intOf iv).toNat)
  case atStart => exact ⟨0, .mk 1 none 0 [], Nat.zero_le _, rfl, by show Ch 0 _; rw [er_mk]; rfl, inp_leaf _ _ _, cell_at_new rfl rfl, cell_at_new rfl rfl, by simp, by simp, by simp, hb2⟩
  case round =>
    obtain ⟨i, ⟨sk, sA, sc, sl⟩, hi, rfl, hch, hin, c0, c1, f0, f1, hlt, hbw⟩ := hrel
    simp only [Sc.k, Sc.v1] at c0 c1
    clear hb2
    by_cases hlti : i < m
    · have HIN := Lib.hid hin
      have hB := hb1.size
      clear hin
      go_wp2_with fail
      · go_roundw
        case rel =>
          obtain ⟨g0, g1, g2, g3⟩ := stW_var (k := 4) (n := 1) (cs := #[.int .i64 sk, .slice sA sl.length sc]) hlt c0 c1 f0 f1
          refine ⟨i + 1, .mk 4 (some ⟨wr.heap.size, 0, none⟩) 1 [.mk sk sA sc sl], by omega, by go_num, ⟨_, hch.out, .inl (by simp only [er_mk, List.map_cons, List.map_nil])⟩, ?_, g0, g1, g2, g3, ?_, stW_below hbw hB⟩
          · exact inp_one ⟨by rw [stW_sz']; omega, by omega⟩ (stW_new rfl) (stW_new rfl) (stW_in HIN.out)
          · exact Nat.lt_of_lt_of_le hlt (by rw [stW_sz']; omega)
        case measure => simp [intOf]; omega
      · go_roundw
        case rel =>
          obtain ⟨g0, g1, g2, g3⟩ := stW_var (k := 5) (n := 2) (cs := #[.int .i64 2, .slice none 0 0, .int .i64 sk, .slice sA sl.length sc]) hlt c0 c1 f0 f1
          refine ⟨i + 1, .mk 5 (some ⟨wr.heap.size, 0, none⟩) 2 [.mk 2 none 0 [], .mk sk sA sc sl], by omega, by go_num, ⟨_, hch.out, .inr (by simp only [er_mk, List.map_cons, List.map_nil])⟩, ?_, g0, g1, g2, g3, ?_, stW_below hbw hB⟩
          · exact inp_two ⟨by rw [stW_sz']; omega, by omega⟩ (stW_new rfl) (stW_new rfl) (stW_new rfl) (stW_new rfl) (inp_leaf _ _ _) (stW_in HIN.out)
          · exact Nat.lt_of_lt_of_le hlt (by rw [stW_sz']; omega)
        case measure => simp [intOf]; omega
    · have him : i = m := by omega
      subst him
      have hS0 : At wr w1.heap.size (.mk sk sA sc sl) := ⟨Sc.Inp.mono hin fun _ h => h.1, c0, c1, hlt⟩
      have HCH := Lib.hid hch.out
      clear hin hch f0 f1 hlti hi
      go_wp2_with fail
      refine (cause_any (.mk sk sA sc sl) wr hS0.inn).mono ?_
      rintro e w2 ⟨⟨ck, cA, cc, cl⟩, rfl, hce, hci, hb2⟩
      have hci1 : (Sc.mk ck cA cc cl).In w2.heap.size w2 := Sc.Inp.mono hci fun _ h => h.2
      have hba : Below w2.heap.size w2 (w2.alloc (.cells #[.int .i64 ck, .slice cA cl.length cc] 24)) := allocB _ _
      have hA := (hS0.later hb2).later hba
      have hC : At (w2.alloc (.cells #[.int .i64 ck, .slice cA cl.length cc] 24)) w2.heap.size (.mk ck cA cc cl) := ⟨hci1.later hba, cell_at_new rfl rfl, cell_at_new rfl rfl, by simp⟩
      have hb : Below w.heap.size w (w2.alloc (.cells #[.int .i64 ck, .slice cA cl.length cc] 24)) := belAl (hbw.trans (hb2.mono hbw.size))
      have HCE := Lib.hid hce
      have HC1 : Hid (isT 16 (Sc.mk ck cA cc cl).er = decide (max ((i : Int) + 1) 2 + 2 ≤ 16)) := by
        show isT 16 _ = _
        rw [HCE.out, cause_is, ch_is 14 HCH.out]
        exact decide_eq_decide.2 (by omega)
      have HL : Hid (isT 16 (Sc.mk ck cA cc cl).er = true → levelT (Sc.mk ck cA cc cl).er = 3) := by
        intro h
        rw [HCE.out] at h ⊢
        exact cause_level _ h
      clear hci hci1 hb2 hba hce hS0 c0 c1 hbw
      simp only [val_mk]
      have a0 : (w2.alloc (.cells #[.int .i64 ck, .slice cA cl.length cc] 24)).cell? ⟨w1.heap.size, 0, none⟩ = some (.int .i64 sk) := hA.c0
      have a1 : (w2.alloc (.cells #[.int .i64 ck, .slice cA cl.length cc] 24)).cell? ⟨w1.heap.size, 1, none⟩ = some (.slice sA sl.length sc) := hA.c1
      go_wp2_with fail
      refine (callB (vB (b := decide ((i : Int) + 1 ≤ 16)) (by rw [ch_is 16 HCH.out]; exact decide_eq_decide.2 (by omega))) (Is_any (.mk sk sA sc sl) _ hA.inn)).mono ?_
      rintro e v0 ⟨rfl, hbj⟩
      replace hA := hA.later hbj
      replace hC := hC.later hbj
      replace hb := hb.trans (hbj.mono hb.size)
      clear hbj a0 a1
      have a0 : v0.cell? ⟨w1.heap.size, 0, none⟩ = some (.int .i64 sk) := hA.c0
      have a1 : v0.cell? ⟨w1.heap.size, 1, none⟩ = some (.slice sA sl.length sc) := hA.c1
      have q0 : v0.cell? ⟨w2.heap.size, 0, none⟩ = some (.int .i64 ck) := hC.c0
      have q1 : v0.cell? ⟨w2.heap.size, 1, none⟩ = some (.slice cA cl.length cc) := hC.c1
      go_wp2_with fail
      refine (callB (vI (b := min ((i : Int) + 1) 17) (by rw [ch_deep 17 HCH.out]; omega)) (Deep_any (.mk sk sA sc sl) _ hA.inn)).mono ?_
      rintro e v1 ⟨rfl, hbj⟩
      replace hA := hA.later hbj
      replace hC := hC.later hbj
      replace hb := hb.trans (hbj.mono hb.size)
      clear hbj a0 a1
      have a0 : v1.cell? ⟨w1.heap.size, 0, none⟩ = some (.int .i64 sk) := hA.c0
      have a1 : v1.cell? ⟨w1.heap.size, 1, none⟩ = some (.slice sA sl.length sc) := hA.c1
      clear q0 q1
      have q0 : v1.cell? ⟨w2.heap.size, 0, none⟩ = some (.int .i64 ck) := hC.c0
      have q1 : v1.cell? ⟨w2.heap.size, 1, none⟩ = some (.slice cA cl.length cc) := hC.c1
      go_wp2_with fail
      refine (callB (vB HC1.out) (Is_any (.mk ck cA cc cl) _ hC.inn)).mono ?_
      rintro e v2 ⟨rfl, hbj⟩
      replace hA := hA.later hbj
      replace hC := hC.later hbj
      replace hb := hb.trans (hbj.mono hb.size)
      clear hbj a0 a1
      have a0 : v2.cell? ⟨w1.heap.size, 0, none⟩ = some (.int .i64 sk) := hA.c0
      have a1 : v2.cell? ⟨w1.heap.size, 1, none⟩ = some (.slice sA sl.length sc) := hA.c1
      clear q0 q1
      have q0 : v2.cell? ⟨w2.heap.size, 0, none⟩ = some (.int .i64 ck) := hC.c0
      have q1 : v2.cell? ⟨w2.heap.size, 1, none⟩ = some (.slice cA cl.length cc) := hC.c1
      go_wp2_with fail
      obtain ⟨qq, hqq⟩ : ∃ q, isT 16 (Sc.mk ck cA cc cl).er = q := ⟨_, rfl⟩
      have HQ := Lib.hid hqq
      clear hqq
      cases qq with
      | false =>
        refine (callB (vB HQ.out) (Is_any (.mk ck cA cc cl) _ hC.inn)).mono ?_
        rintro e v3 ⟨rfl, hbj⟩
        replace hA := hA.later hbj
        replace hC := hC.later hbj
        replace hb := hb.trans (hbj.mono hb.size)
        clear hbj a0 a1
        have a0 : v3.cell? ⟨w1.heap.size, 0, none⟩ = some (.int .i64 sk) := hA.c0
        have a1 : v3.cell? ⟨w1.heap.size, 1, none⟩ = some (.slice sA sl.length sc) := hA.c1
        clear q0 q1
        have q0 : v3.cell? ⟨w2.heap.size, 0, none⟩ = some (.int .i64 ck) := hC.c0
        have q1 : v3.cell? ⟨w2.heap.size, 1, none⟩ = some (.slice cA cl.length cc) := hC.c1
        go_wp2_with fail
        go_ret
        exact ⟨rfl, hb⟩
      | true =>
        refine (callB (vB HQ.out) (Is_any (.mk ck cA cc cl) _ hC.inn)).mono ?_
        rintro e v4 ⟨rfl, hbj⟩
        replace hA := hA.later hbj
        replace hC := hC.later hbj
        replace hb := hb.trans (hbj.mono hb.size)
        clear hbj a0 a1
        have a0 : v4.cell? ⟨w1.heap.size, 0, none⟩ = some (.int .i64 sk) := hA.c0
        have a1 : v4.cell? ⟨w1.heap.size, 1, none⟩ = some (.slice sA sl.length sc) := hA.c1
        clear q0 q1
        have q0 : v4.cell? ⟨w2.heap.size, 0, none⟩ = some (.int .i64 ck) := hC.c0
        have q1 : v4.cell? ⟨w2.heap.size, 1, none⟩ = some (.slice cA cl.length cc) := hC.c1
        go_wp2_with fail
        refine (callB (vI (HL.out HQ.out)) (Level_any (.mk ck cA cc cl) _ hC.inn)).mono ?_
        rintro e v5 ⟨rfl, hbj⟩
        replace hA := hA.later hbj
        replace hC := hC.later hbj
        replace hb := hb.trans (hbj.mono hb.size)
        clear hbj a0 a1
        have a0 : v5.cell? ⟨w1.heap.size, 0, none⟩ = some (.int .i64 sk) := hA.c0
        have a1 : v5.cell? ⟨w1.heap.size, 1, none⟩ = some (.slice sA sl.length sc) := hA.c1
        clear q0 q1
        have q0 : v5.cell? ⟨w2.heap.size, 0, none⟩ = some (.int .i64 ck) := hC.c0
        have q1 : v5.cell? ⟨w2.heap.size, 1, none⟩ = some (.slice cA cl.length cc) := hC.c1
        go_wp2_with fail
        go_ret
        exact ⟨rfl, hb⟩
end Go.Proofs.Ytohmgidmfabimaa
