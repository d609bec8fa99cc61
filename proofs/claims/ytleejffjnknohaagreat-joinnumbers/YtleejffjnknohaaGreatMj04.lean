/- What the reference's fits does. No condition but that the value lies in memory. What the reference's functions on schemas do: arity, deep, isSchema. No condition but that the schema lies in memory. What the reference's deep does. No condition but that the schema lies in memory. What the reference's isSchema does. No condition but that the schema lies in memory. What the reference's SameSchema does. No condition but that the schemas lie in memory. What the reference's Cause, Level, IsSchema, Deep do. No condition but that the schema lies in memory. -/
import Derived.Test.YtleejffjnknohaaGreatMj03
import Derived.Test.YtleejffjnknohaaGreatMj02
import Derived.StillTailTactics
namespace Go.Proofs.YtleejffjnknohaaGreat.V4
open Go.RowKit
open C3 (Tk Asc isC ofC cmpC Nok In belAl allocB drewB RetT)

def hasV (x : Va) (p q r s t : Bool) : Bool := hasN x.n x.m x.s.length x.c.length x.v.length p q r s t

/-- Has a value the parts that its kind has, whatever is in them? -/
def fitsV (k : Int) (x : Va) : Bool :=
  if k = 1 then hasV x true false false false false
  else if k = 2 then hasV x true false false false false && decide (x.n ≤ 1)
  else if k = 3 then hasV x false false true false false && shortV x.s
  else if k = 4 then hasV x false false true false true && (shortV x.s && decide (x.s.length = x.v.length))
  else if k = 5 then hasV x false false false false true && decide (x.v.length = 2)
  else if k = 6 then (if x.s.length = 0 then hasV x false false false false false else hasV x true true true false false && (decide (x.s.length = 1) && (shortV x.s && (decide (x.n ≠ 0) || (decide (x.m ≠ 0) || decide (x.s ≠ [[]]))))))
  else if k = 7 then hasV x false false false true false && decide (x.c.length ≤ 1)
  else hasV x false false false true true && decide (x.c.length = x.v.length)

theorem fits_1 (n m : Int) (s : List Str) (c : List (List Tk)) (v : List Va) : fitsV 1 (.mk n m s c v) = (hasN n m s.length c.length v.length true false false false false) := by unfold fitsV; rw [if_pos rfl]; rfl
theorem fits_2 (n m : Int) (s : List Str) (c : List (List Tk)) (v : List Va) : fitsV 2 (.mk n m s c v) = (hasN n m s.length c.length v.length true false false false false && decide (n ≤ 1)) := by unfold fitsV; rw [if_neg (by decide), if_pos rfl]; rfl
theorem fits_3 (n m : Int) (s : List Str) (c : List (List Tk)) (v : List Va) : fitsV 3 (.mk n m s c v) = (hasN n m s.length c.length v.length false false true false false && shortV s) := by unfold fitsV; rw [if_neg (by decide), if_neg (by decide), if_pos rfl]; rfl
theorem fits_4 (n m : Int) (s : List Str) (c : List (List Tk)) (v : List Va) : fitsV 4 (.mk n m s c v) = (hasN n m s.length c.length v.length false false true false true && (shortV s && decide (s.length = v.length))) := by unfold fitsV; rw [if_neg (by decide), if_neg (by decide), if_neg (by decide), if_pos rfl]; rfl
theorem fits_5 (n m : Int) (s : List Str) (c : List (List Tk)) (v : List Va) : fitsV 5 (.mk n m s c v) = (hasN n m s.length c.length v.length false false false false true && decide (v.length = 2)) := by unfold fitsV; rw [if_neg (by decide), if_neg (by decide), if_neg (by decide), if_neg (by decide), if_pos rfl]; rfl
theorem fits_6 (n m : Int) (s : List Str) (c : List (List Tk)) (v : List Va) : fitsV 6 (.mk n m s c v) = (if s.length = 0 then hasN n m s.length c.length v.length false false false false false else hasN n m s.length c.length v.length true true true false false && (decide (s.length = 1) && (shortV s && (decide (n ≠ 0) || (decide (m ≠ 0) || decide (s ≠ [[]])))))) := by unfold fitsV; rw [if_neg (by decide), if_neg (by decide), if_neg (by decide), if_neg (by decide), if_neg (by decide), if_pos rfl]; rfl
theorem fits_7 (n m : Int) (s : List Str) (c : List (List Tk)) (v : List Va) : fitsV 7 (.mk n m s c v) = (hasN n m s.length c.length v.length false false false true false && decide (c.length ≤ 1)) := by unfold fitsV; rw [if_neg (by decide), if_neg (by decide), if_neg (by decide), if_neg (by decide), if_neg (by decide), if_neg (by decide), if_pos rfl]; rfl

theorem refHas_at (n m : Int) (sA : Option Addr) (sc a : Nat) (cA : Option Addr) (cc b : Nat) (vA : Option Addr) (vc d : Nat) (p q r s t v : Bool) (w : World) (hv : hasN n m a b d p q r s t = v) :
    Calls Tryz.prog 80 #[.agg #[.int .u64 n, .int .u64 m, .slice sA a sc, .slice cA b cc, .slice vA d vc], .bool p, .bool q, .bool r, .bool s, .bool t] w (RetV w (.bool v)) := hv ▸ refHas_any n m sA sc a cA cc b vA vc d p q r s t w
theorem refShort_at (A : Option Addr) (c : Nat) (ss : List Str) (v : Bool) (w : World) (hl : Lies w A ss) (hn : ss.length ≤ maxLen) (ht : ∀ s ∈ ss, s.length ≤ maxLen) (hv : shortV ss = v) :
    Calls Tryz.prog 81 #[.slice A ss.length c] w fun e w' => e = .returned (.bool v) ∧ w = w' := hv ▸ refShort_any A c ss w hl hn ht

theorem fits_ne {n m : Int} (k : Int) {s : List Str} {c : List (List Tk)} {v : List Va} (h1 : k ≠ 1) (h2 : k ≠ 2) (h3 : k ≠ 3) (h4 : k ≠ 4) (h5 : k ≠ 5) (h6 : k ≠ 6) (h7 : k ≠ 7) : fitsV k (.mk n m s c v) = (hasN n m s.length c.length v.length false false false true true && decide (c.length = v.length)) := by
  unfold fitsV hasV
  rw [if_neg h1, if_neg h2, if_neg h3, if_neg h4, if_neg h5, if_neg h6, if_neg h7]
  rfl

set_option maxRecDepth 100000 in
set_option maxHeartbeats 4000000 in
theorem refFits_any (k : Int) (A : Option Addr) (c ln : Nat) (x : Vl) (w : World) (hin : x.In w) : Calls Tryz.prog 50 #[.agg #[.int .i64 k, .slice A ln c], x.val] w (RetV w (.bool (fitsV k x.er))) := by
  obtain ⟨n, m, sA, sc, ss, cA, cc, cs, vA, vc, vs⟩ := x
  have hW0 : Below w.heap.size w ((w.alloc (.cells #[.int .i64 k, .slice A ln c] 24)).alloc (.cells #[.int .u64 n, .int .u64 m, .slice sA ss.length sc, .slice cA cs.length cc, .slice vA vs.length vc] 32)) := belAl (allocB _ _)
  have P := hin.out
  have HP := Lib.hid P
  have HSB : Hid (ss.length ≤ maxLen) := Nat.le_trans P.sb.1 P.sb.2.1
  have HST := Lib.hid P.st
  have HSL := Lib.hid P.sl
  have hsm : ss.length ≤ 9223372036854775807 := by have := P.sb; unfold maxLen at this; omega
  have hcm : cs.length ≤ 9223372036854775807 := by have := P.cb; unfold maxLen at this; omega
  have hvm : vs.length ≤ 9223372036854775807 := by have := P.vb; unfold maxLen at this; omega
  obtain ⟨hn0, hn1⟩ := P.hn
  obtain ⟨hm0, hm1⟩ := P.hm
  have HW0 := Lib.hid hW0
  clear hin P hW0
  simp only [val_mk, er_mk]
  by_cases k1 : k = 1
  · subst k1
    obtain ⟨t, ht⟩ : ∃ z, hasN n m ss.length (cs.map Ck.l).length (vs.map Vl.er).length true false false false false = z := ⟨_, rfl⟩
    have HF : Hid (fitsV 1 (.mk n m ss (cs.map Ck.l) (vs.map Vl.er)) = (t)) := by
      show fitsV _ _ = _
      rw [fits_1, ht]
    have H_t : Hid (hasN n m ss.length cs.length vs.length true false false false false = t) := by show _ = _; rw [← ht, List.length_map, List.length_map]
    clear ht
    go_enter Tryz.func50, Tryz.ntmps50
    go_wp2_with fail
    refine (refHas_at n m sA sc ss.length cA cc cs.length vA vc vs.length true false false false false t _ H_t.out).mono ?_
    rintro e w1 ⟨rfl, hb1⟩
    have hbw1 : Below w.heap.size w w1 := HW0.out.trans (hb1.mono HW0.out.size)
    have a0 : w1.cell? ⟨w.heap.size + 1, 0, none⟩ = some (.int .u64 n) := (hb1.cell (p := ⟨w.heap.size + 1, 0, none⟩) (by simp)).trans (by go_simp)
    have a1 : w1.cell? ⟨w.heap.size + 1, 1, none⟩ = some (.int .u64 m) := (hb1.cell (p := ⟨w.heap.size + 1, 1, none⟩) (by simp)).trans (by go_simp)
    have a2 : w1.cell? ⟨w.heap.size + 1, 2, none⟩ = some (.slice sA ss.length sc) := (hb1.cell (p := ⟨w.heap.size + 1, 2, none⟩) (by simp)).trans (by go_simp)
    have a3 : w1.cell? ⟨w.heap.size + 1, 3, none⟩ = some (.slice cA cs.length cc) := (hb1.cell (p := ⟨w.heap.size + 1, 3, none⟩) (by simp)).trans (by go_simp)
    have a4 : w1.cell? ⟨w.heap.size + 1, 4, none⟩ = some (.slice vA vs.length vc) := (hb1.cell (p := ⟨w.heap.size + 1, 4, none⟩) (by simp)).trans (by go_simp)
    have HL1 : Hid (Lies w1 sA ss) := HSL.out.below hbw1
    clear hb1 HW0
    cases t with
    | false =>
      go_wp2_with fail
      go_ret
      exact ⟨ret_bool HF.out.symm, hbw1⟩
    | true =>
      go_wp2_with fail
      go_ret
      exact ⟨ret_bool HF.out.symm, hbw1⟩
  · skip
    by_cases k2 : k = 2
    · subst k2
      obtain ⟨t, ht⟩ : ∃ z, hasN n m ss.length (cs.map Ck.l).length (vs.map Vl.er).length true false false false false = z := ⟨_, rfl⟩
      obtain ⟨p, hp⟩ : ∃ z, decide (n ≤ 1) = z := ⟨_, rfl⟩
      have HF : Hid (fitsV 2 (.mk n m ss (cs.map Ck.l) (vs.map Vl.er)) = (t && p)) := by
        show fitsV _ _ = _
        rw [fits_2, ht, hp]
      have H_t : Hid (hasN n m ss.length cs.length vs.length true false false false false = t) := by show _ = _; rw [← ht, List.length_map, List.length_map]
      clear ht
      have H_p := Lib.hid hp
      clear hp
      go_enter Tryz.func50, Tryz.ntmps50
      go_wp2_with fail
      refine (refHas_at n m sA sc ss.length cA cc cs.length vA vc vs.length true false false false false t _ H_t.out).mono ?_
      rintro e w1 ⟨rfl, hb1⟩
      have hbw1 : Below w.heap.size w w1 := HW0.out.trans (hb1.mono HW0.out.size)
      have a0 : w1.cell? ⟨w.heap.size + 1, 0, none⟩ = some (.int .u64 n) := (hb1.cell (p := ⟨w.heap.size + 1, 0, none⟩) (by simp)).trans (by go_simp)
      have a1 : w1.cell? ⟨w.heap.size + 1, 1, none⟩ = some (.int .u64 m) := (hb1.cell (p := ⟨w.heap.size + 1, 1, none⟩) (by simp)).trans (by go_simp)
      have a2 : w1.cell? ⟨w.heap.size + 1, 2, none⟩ = some (.slice sA ss.length sc) := (hb1.cell (p := ⟨w.heap.size + 1, 2, none⟩) (by simp)).trans (by go_simp)
      have a3 : w1.cell? ⟨w.heap.size + 1, 3, none⟩ = some (.slice cA cs.length cc) := (hb1.cell (p := ⟨w.heap.size + 1, 3, none⟩) (by simp)).trans (by go_simp)
      have a4 : w1.cell? ⟨w.heap.size + 1, 4, none⟩ = some (.slice vA vs.length vc) := (hb1.cell (p := ⟨w.heap.size + 1, 4, none⟩) (by simp)).trans (by go_simp)
      have HL1 : Hid (Lies w1 sA ss) := HSL.out.below hbw1
      clear hb1 HW0
      cases t with
      | false =>
        go_wp2_with fail
        go_ret
        exact ⟨ret_bool HF.out.symm, hbw1⟩
      | true =>
        cases p with
        | false =>
          have cx := of_decide_eq_false H_p.out
          have dx : decide (n ≤ 1) = false := decide_eq_false cx
          clear cx
          go_wp2_with fail
          go_ret
          exact ⟨ret_bool HF.out.symm, hbw1⟩
        | true =>
          have cx := of_decide_eq_true H_p.out
          have dx : n ≤ 1 := cx
          clear cx
          go_wp2_with fail
          go_ret
          exact ⟨ret_bool HF.out.symm, hbw1⟩
    · skip
      by_cases k3 : k = 3
      · subst k3
        obtain ⟨t, ht⟩ : ∃ z, hasN n m ss.length (cs.map Ck.l).length (vs.map Vl.er).length false false true false false = z := ⟨_, rfl⟩
        obtain ⟨u, hu⟩ : ∃ z, shortV ss = z := ⟨_, rfl⟩
        have HF : Hid (fitsV 3 (.mk n m ss (cs.map Ck.l) (vs.map Vl.er)) = (t && u)) := by
          show fitsV _ _ = _
          rw [fits_3, ht, hu]
        have H_t : Hid (hasN n m ss.length cs.length vs.length false false true false false = t) := by show _ = _; rw [← ht, List.length_map, List.length_map]
        clear ht
        have H_u := Lib.hid hu
        clear hu
        go_enter Tryz.func50, Tryz.ntmps50
        go_wp2_with fail
        refine (refHas_at n m sA sc ss.length cA cc cs.length vA vc vs.length false false true false false t _ H_t.out).mono ?_
        rintro e w1 ⟨rfl, hb1⟩
        have hbw1 : Below w.heap.size w w1 := HW0.out.trans (hb1.mono HW0.out.size)
        have a0 : w1.cell? ⟨w.heap.size + 1, 0, none⟩ = some (.int .u64 n) := (hb1.cell (p := ⟨w.heap.size + 1, 0, none⟩) (by simp)).trans (by go_simp)
        have a1 : w1.cell? ⟨w.heap.size + 1, 1, none⟩ = some (.int .u64 m) := (hb1.cell (p := ⟨w.heap.size + 1, 1, none⟩) (by simp)).trans (by go_simp)
        have a2 : w1.cell? ⟨w.heap.size + 1, 2, none⟩ = some (.slice sA ss.length sc) := (hb1.cell (p := ⟨w.heap.size + 1, 2, none⟩) (by simp)).trans (by go_simp)
        have a3 : w1.cell? ⟨w.heap.size + 1, 3, none⟩ = some (.slice cA cs.length cc) := (hb1.cell (p := ⟨w.heap.size + 1, 3, none⟩) (by simp)).trans (by go_simp)
        have a4 : w1.cell? ⟨w.heap.size + 1, 4, none⟩ = some (.slice vA vs.length vc) := (hb1.cell (p := ⟨w.heap.size + 1, 4, none⟩) (by simp)).trans (by go_simp)
        have HL1 : Hid (Lies w1 sA ss) := HSL.out.below hbw1
        clear hb1 HW0
        cases t with
        | false =>
          go_wp2_with fail
          go_ret
          exact ⟨ret_bool HF.out.symm, hbw1⟩
        | true =>
          go_wp2_with fail
          refine (refShort_at sA sc ss u _ HL1.out HSB.out HST.out H_u.out).mono ?_
          rintro e w2 ⟨rfl, rfl⟩
          cases u with
          | false =>
            go_wp2_with fail
            go_ret
            exact ⟨ret_bool HF.out.symm, hbw1⟩
          | true =>
            go_wp2_with fail
            go_ret
            exact ⟨ret_bool HF.out.symm, hbw1⟩
      · skip
        by_cases k4 : k = 4
        · subst k4
          obtain ⟨t, ht⟩ : ∃ z, hasN n m ss.length (cs.map Ck.l).length (vs.map Vl.er).length false false true false true = z := ⟨_, rfl⟩
          obtain ⟨u, hu⟩ : ∃ z, shortV ss = z := ⟨_, rfl⟩
          obtain ⟨p, hp⟩ : ∃ z, decide (ss.length = (vs.map Vl.er).length) = z := ⟨_, rfl⟩
          have HF : Hid (fitsV 4 (.mk n m ss (cs.map Ck.l) (vs.map Vl.er)) = (t && (u && p))) := by
            show fitsV _ _ = _
            rw [fits_4, ht, hu, hp]
          have H_t : Hid (hasN n m ss.length cs.length vs.length false false true false true = t) := by show _ = _; rw [← ht, List.length_map, List.length_map]
          clear ht
          have H_u := Lib.hid hu
          clear hu
          have H_p := Lib.hid hp
          clear hp
          go_enter Tryz.func50, Tryz.ntmps50
          go_wp2_with fail
          refine (refHas_at n m sA sc ss.length cA cc cs.length vA vc vs.length false false true false true t _ H_t.out).mono ?_
          rintro e w1 ⟨rfl, hb1⟩
          have hbw1 : Below w.heap.size w w1 := HW0.out.trans (hb1.mono HW0.out.size)
          have a0 : w1.cell? ⟨w.heap.size + 1, 0, none⟩ = some (.int .u64 n) := (hb1.cell (p := ⟨w.heap.size + 1, 0, none⟩) (by simp)).trans (by go_simp)
          have a1 : w1.cell? ⟨w.heap.size + 1, 1, none⟩ = some (.int .u64 m) := (hb1.cell (p := ⟨w.heap.size + 1, 1, none⟩) (by simp)).trans (by go_simp)
          have a2 : w1.cell? ⟨w.heap.size + 1, 2, none⟩ = some (.slice sA ss.length sc) := (hb1.cell (p := ⟨w.heap.size + 1, 2, none⟩) (by simp)).trans (by go_simp)
          have a3 : w1.cell? ⟨w.heap.size + 1, 3, none⟩ = some (.slice cA cs.length cc) := (hb1.cell (p := ⟨w.heap.size + 1, 3, none⟩) (by simp)).trans (by go_simp)
          have a4 : w1.cell? ⟨w.heap.size + 1, 4, none⟩ = some (.slice vA vs.length vc) := (hb1.cell (p := ⟨w.heap.size + 1, 4, none⟩) (by simp)).trans (by go_simp)
          have HL1 : Hid (Lies w1 sA ss) := HSL.out.below hbw1
          clear hb1 HW0
          cases t with
          | false =>
            go_wp2_with fail
            go_ret
            exact ⟨ret_bool HF.out.symm, hbw1⟩
          | true =>
            go_wp2_with fail
            refine (refShort_at sA sc ss u _ HL1.out HSB.out HST.out H_u.out).mono ?_
            rintro e w2 ⟨rfl, rfl⟩
            cases u with
            | false =>
              go_wp2_with fail
              go_ret
              exact ⟨ret_bool HF.out.symm, hbw1⟩
            | true =>
              cases p with
              | false =>
                have cx := of_decide_eq_false H_p.out
                rw [List.length_map] at cx
                have dx : ((ss.length : Int) == (vs.length : Int)) = false := beq_eq_false_iff_ne.2 (by omega)
                clear cx
                go_wp2_with fail
                go_ret
                exact ⟨ret_bool HF.out.symm, hbw1⟩
              | true =>
                have cx := of_decide_eq_true H_p.out
                rw [List.length_map] at cx
                have dx : ((ss.length : Int) == (vs.length : Int)) = true := beq_iff_eq.2 (by omega)
                clear cx
                go_wp2_with fail
                go_ret
                exact ⟨ret_bool HF.out.symm, hbw1⟩
        · skip
          by_cases k5 : k = 5
          · subst k5
            obtain ⟨t, ht⟩ : ∃ z, hasN n m ss.length (cs.map Ck.l).length (vs.map Vl.er).length false false false false true = z := ⟨_, rfl⟩
            obtain ⟨p, hp⟩ : ∃ z, decide ((vs.map Vl.er).length = 2) = z := ⟨_, rfl⟩
            have HF : Hid (fitsV 5 (.mk n m ss (cs.map Ck.l) (vs.map Vl.er)) = (t && p)) := by
              show fitsV _ _ = _
              rw [fits_5, ht, hp]
            have H_t : Hid (hasN n m ss.length cs.length vs.length false false false false true = t) := by show _ = _; rw [← ht, List.length_map, List.length_map]
            clear ht
            have H_p := Lib.hid hp
            clear hp
            go_enter Tryz.func50, Tryz.ntmps50
            go_wp2_with fail
            refine (refHas_at n m sA sc ss.length cA cc cs.length vA vc vs.length false false false false true t _ H_t.out).mono ?_
            rintro e w1 ⟨rfl, hb1⟩
            have hbw1 : Below w.heap.size w w1 := HW0.out.trans (hb1.mono HW0.out.size)
            have a0 : w1.cell? ⟨w.heap.size + 1, 0, none⟩ = some (.int .u64 n) := (hb1.cell (p := ⟨w.heap.size + 1, 0, none⟩) (by simp)).trans (by go_simp)
            have a1 : w1.cell? ⟨w.heap.size + 1, 1, none⟩ = some (.int .u64 m) := (hb1.cell (p := ⟨w.heap.size + 1, 1, none⟩) (by simp)).trans (by go_simp)
            have a2 : w1.cell? ⟨w.heap.size + 1, 2, none⟩ = some (.slice sA ss.length sc) := (hb1.cell (p := ⟨w.heap.size + 1, 2, none⟩) (by simp)).trans (by go_simp)
            have a3 : w1.cell? ⟨w.heap.size + 1, 3, none⟩ = some (.slice cA cs.length cc) := (hb1.cell (p := ⟨w.heap.size + 1, 3, none⟩) (by simp)).trans (by go_simp)
            have a4 : w1.cell? ⟨w.heap.size + 1, 4, none⟩ = some (.slice vA vs.length vc) := (hb1.cell (p := ⟨w.heap.size + 1, 4, none⟩) (by simp)).trans (by go_simp)
            have HL1 : Hid (Lies w1 sA ss) := HSL.out.below hbw1
            clear hb1 HW0
            cases t with
            | false =>
              go_wp2_with fail
              go_ret
              exact ⟨ret_bool HF.out.symm, hbw1⟩
            | true =>
              cases p with
              | false =>
                have cx := of_decide_eq_false H_p.out
                rw [List.length_map] at cx
                have dx : ((vs.length : Int) == 2) = false := beq_eq_false_iff_ne.2 (by omega)
                clear cx
                go_wp2_with fail
                go_ret
                exact ⟨ret_bool HF.out.symm, hbw1⟩
              | true =>
                have cx := of_decide_eq_true H_p.out
                rw [List.length_map] at cx
                have dx : ((vs.length : Int) == 2) = true := beq_iff_eq.2 (by omega)
                clear cx
                go_wp2_with fail
                go_ret
                exact ⟨ret_bool HF.out.symm, hbw1⟩
          · skip
            by_cases k6 : k = 6
            · subst k6
              by_cases c0 : ss.length = 0
              · have e0 : ss = [] := List.eq_nil_of_length_eq_zero c0
                subst e0
                clear c0
                obtain ⟨t, ht⟩ : ∃ z, hasN n m ([] : List Str).length (cs.map Ck.l).length (vs.map Vl.er).length false false false false false = z := ⟨_, rfl⟩
                have HF : Hid (fitsV 6 (.mk n m [] (cs.map Ck.l) (vs.map Vl.er)) = t) := by
                  show fitsV _ _ = _
                  rw [fits_6, if_pos List.length_nil, ht]
                have H_t : Hid (hasN n m 0 cs.length vs.length false false false false false = t) := by show _ = _; rw [← ht, List.length_map, List.length_map]; rfl
                clear ht
                go_enter Tryz.func50, Tryz.ntmps50
                go_wp2_with fail
                refine (refHas_at n m sA sc 0 cA cc cs.length vA vc vs.length false false false false false t _ H_t.out).mono ?_
                rintro e w1 ⟨rfl, hb1⟩
                have hbw1 : Below w.heap.size w w1 := HW0.out.trans (hb1.mono HW0.out.size)
                have a0 : w1.cell? ⟨w.heap.size + 1, 0, none⟩ = some (.int .u64 n) := (hb1.cell (p := ⟨w.heap.size + 1, 0, none⟩) (by simp)).trans (by go_simp)
                have a1 : w1.cell? ⟨w.heap.size + 1, 1, none⟩ = some (.int .u64 m) := (hb1.cell (p := ⟨w.heap.size + 1, 1, none⟩) (by simp)).trans (by go_simp)
                have a2 : w1.cell? ⟨w.heap.size + 1, 2, none⟩ = some (.slice sA 0 sc) := (hb1.cell (p := ⟨w.heap.size + 1, 2, none⟩) (by simp)).trans (by go_simp)
                have a3 : w1.cell? ⟨w.heap.size + 1, 3, none⟩ = some (.slice cA cs.length cc) := (hb1.cell (p := ⟨w.heap.size + 1, 3, none⟩) (by simp)).trans (by go_simp)
                have a4 : w1.cell? ⟨w.heap.size + 1, 4, none⟩ = some (.slice vA vs.length vc) := (hb1.cell (p := ⟨w.heap.size + 1, 4, none⟩) (by simp)).trans (by go_simp)
                have HL1 : Hid (Lies w1 sA []) := HSL.out.below hbw1
                clear hb1 HW0
                cases t with
                | false =>
                  go_wp2_with fail
                  go_ret
                  exact ⟨ret_bool HF.out.symm, hbw1⟩
                | true =>
                  go_wp2_with fail
                  go_ret
                  exact ⟨ret_bool HF.out.symm, hbw1⟩
              · have d0 : ((ss.length : Int) == 0) = false := beq_eq_false_iff_ne.2 (by omega)
                obtain ⟨t, ht⟩ : ∃ z, hasN n m ss.length (cs.map Ck.l).length (vs.map Vl.er).length true true true false false = z := ⟨_, rfl⟩
                obtain ⟨p1, hp1⟩ : ∃ z, decide (ss.length = 1) = z := ⟨_, rfl⟩
                obtain ⟨u, hu⟩ : ∃ z, shortV ss = z := ⟨_, rfl⟩
                obtain ⟨q1, hq1⟩ : ∃ z, decide (n ≠ 0) = z := ⟨_, rfl⟩
                obtain ⟨q2, hq2⟩ : ∃ z, decide (m ≠ 0) = z := ⟨_, rfl⟩
                obtain ⟨q3, hq3⟩ : ∃ z, decide (ss ≠ [[]]) = z := ⟨_, rfl⟩
                have HF : Hid (fitsV 6 (.mk n m ss (cs.map Ck.l) (vs.map Vl.er)) = (t && (p1 && (u && (q1 || (q2 || q3)))))) := by
                  show fitsV _ _ = _
                  rw [fits_6, if_neg c0, ht, hp1, hu, hq1, hq2, hq3]
                have H_t : Hid (hasN n m ss.length cs.length vs.length true true true false false = t) := by show _ = _; rw [← ht, List.length_map, List.length_map]
                have H_p1 := Lib.hid hp1
                have H_u := Lib.hid hu
                have H_q1 := Lib.hid hq1
                have H_q2 := Lib.hid hq2
                have H_q3 := Lib.hid hq3
                clear c0 ht hp1 hu hq1 hq2 hq3
                go_enter Tryz.func50, Tryz.ntmps50
                go_wp2_with fail
                refine (refHas_at n m sA sc ss.length cA cc cs.length vA vc vs.length true true true false false t _ H_t.out).mono ?_
                rintro e w1 ⟨rfl, hb1⟩
                have hbw1 : Below w.heap.size w w1 := HW0.out.trans (hb1.mono HW0.out.size)
                have a0 : w1.cell? ⟨w.heap.size + 1, 0, none⟩ = some (.int .u64 n) := (hb1.cell (p := ⟨w.heap.size + 1, 0, none⟩) (by simp)).trans (by go_simp)
                have a1 : w1.cell? ⟨w.heap.size + 1, 1, none⟩ = some (.int .u64 m) := (hb1.cell (p := ⟨w.heap.size + 1, 1, none⟩) (by simp)).trans (by go_simp)
                have a2 : w1.cell? ⟨w.heap.size + 1, 2, none⟩ = some (.slice sA ss.length sc) := (hb1.cell (p := ⟨w.heap.size + 1, 2, none⟩) (by simp)).trans (by go_simp)
                have a3 : w1.cell? ⟨w.heap.size + 1, 3, none⟩ = some (.slice cA cs.length cc) := (hb1.cell (p := ⟨w.heap.size + 1, 3, none⟩) (by simp)).trans (by go_simp)
                have a4 : w1.cell? ⟨w.heap.size + 1, 4, none⟩ = some (.slice vA vs.length vc) := (hb1.cell (p := ⟨w.heap.size + 1, 4, none⟩) (by simp)).trans (by go_simp)
                have HL1 : Hid (Lies w1 sA ss) := HSL.out.below hbw1
                clear hb1 HW0
                cases t with
                | false =>
                  go_wp2_with fail
                  go_ret
                  exact ⟨ret_bool HF.out.symm, hbw1⟩
                | true =>
                  cases p1 with
                  | false =>
                    have cx := of_decide_eq_false H_p1.out
                    have dx : ((ss.length : Int) == 1) = false := beq_eq_false_iff_ne.2 (by omega)
                    clear cx
                    go_wp2_with fail
                    go_ret
                    exact ⟨ret_bool HF.out.symm, hbw1⟩
                  | true =>
                    have cx := of_decide_eq_true H_p1.out
                    obtain ⟨s, rfl⟩ : ∃ s, ss = [s] := List.length_eq_one_iff.1 cx
                    clear cx
                    clear d0
                    obtain ⟨b, off, rfl, hb, hc⟩ := HL1.out.get (k := 0) (by simp)
                    have hc0 := hc 0 s rfl
                    simp only [Nat.add_zero] at hc0
                    clear hc
                    go_wp2_with fail
                    refine (refShort_at _ sc [s] u _ HL1.out HSB.out HST.out H_u.out).mono ?_
                    rintro e w2 ⟨rfl, rfl⟩
                    cases u with
                    | false =>
                      go_wp2_with fail
                      go_ret
                      exact ⟨ret_bool HF.out.symm, hbw1⟩
                    | true =>
                      cases q1 with
                      | true =>
                        have d1 : (n == 0) = false := by have := of_decide_eq_true H_q1.out; simp [this]
                        have d1' : (n != 0) = true := by have := of_decide_eq_true H_q1.out; simp [this]
                        go_wp2_with fail
                        go_ret
                        exact ⟨ret_bool HF.out.symm, hbw1⟩
                      | false =>
                        have e1 : n = 0 := by have := of_decide_eq_false H_q1.out; omega
                        subst e1
                        cases q2 with
                        | true =>
                          have d2 : (m == 0) = false := by have := of_decide_eq_true H_q2.out; simp [this]
                          have d2' : (m != 0) = true := by have := of_decide_eq_true H_q2.out; simp [this]
                          go_wp2_with fail
                          go_ret
                          exact ⟨ret_bool HF.out.symm, hbw1⟩
                        | false =>
                          have e2 : m = 0 := by have := of_decide_eq_false H_q2.out; omega
                          subst e2
                          cases q3 with
                          | true =>
                            have d3 : List.isEmpty s = false := by
                              cases s with
                              | nil => exact absurd rfl (of_decide_eq_true H_q3.out)
                              | cons => rfl
                            go_wp2_with fail
                            go_ret
                            exact ⟨ret_bool HF.out.symm, hbw1⟩
                          | false =>
                            have e3 : s = [] := by have := of_decide_eq_false H_q3.out; simpa using this
                            subst e3
                            go_wp2_with fail
                            go_ret
                            exact ⟨ret_bool HF.out.symm, hbw1⟩
            · skip
              by_cases k7 : k = 7
              · subst k7
                obtain ⟨t, ht⟩ : ∃ z, hasN n m ss.length (cs.map Ck.l).length (vs.map Vl.er).length false false false true false = z := ⟨_, rfl⟩
                obtain ⟨p, hp⟩ : ∃ z, decide ((cs.map Ck.l).length ≤ 1) = z := ⟨_, rfl⟩
                have HF : Hid (fitsV 7 (.mk n m ss (cs.map Ck.l) (vs.map Vl.er)) = (t && p)) := by
                  show fitsV _ _ = _
                  rw [fits_7, ht, hp]
                have H_t : Hid (hasN n m ss.length cs.length vs.length false false false true false = t) := by show _ = _; rw [← ht, List.length_map, List.length_map]
                clear ht
                have H_p := Lib.hid hp
                clear hp
                go_enter Tryz.func50, Tryz.ntmps50
                go_wp2_with fail
                refine (refHas_at n m sA sc ss.length cA cc cs.length vA vc vs.length false false false true false t _ H_t.out).mono ?_
                rintro e w1 ⟨rfl, hb1⟩
                have hbw1 : Below w.heap.size w w1 := HW0.out.trans (hb1.mono HW0.out.size)
                have a0 : w1.cell? ⟨w.heap.size + 1, 0, none⟩ = some (.int .u64 n) := (hb1.cell (p := ⟨w.heap.size + 1, 0, none⟩) (by simp)).trans (by go_simp)
                have a1 : w1.cell? ⟨w.heap.size + 1, 1, none⟩ = some (.int .u64 m) := (hb1.cell (p := ⟨w.heap.size + 1, 1, none⟩) (by simp)).trans (by go_simp)
                have a2 : w1.cell? ⟨w.heap.size + 1, 2, none⟩ = some (.slice sA ss.length sc) := (hb1.cell (p := ⟨w.heap.size + 1, 2, none⟩) (by simp)).trans (by go_simp)
                have a3 : w1.cell? ⟨w.heap.size + 1, 3, none⟩ = some (.slice cA cs.length cc) := (hb1.cell (p := ⟨w.heap.size + 1, 3, none⟩) (by simp)).trans (by go_simp)
                have a4 : w1.cell? ⟨w.heap.size + 1, 4, none⟩ = some (.slice vA vs.length vc) := (hb1.cell (p := ⟨w.heap.size + 1, 4, none⟩) (by simp)).trans (by go_simp)
                have HL1 : Hid (Lies w1 sA ss) := HSL.out.below hbw1
                clear hb1 HW0
                cases t with
                | false =>
                  go_wp2_with fail
                  go_ret
                  exact ⟨ret_bool HF.out.symm, hbw1⟩
                | true =>
                  cases p with
                  | false =>
                    have cx := of_decide_eq_false H_p.out
                    rw [List.length_map] at cx
                    have dx : decide ((cs.length : Int) ≤ 1) = false := decide_eq_false (by omega)
                    clear cx
                    go_wp2_with fail
                    go_ret
                    exact ⟨ret_bool HF.out.symm, hbw1⟩
                  | true =>
                    have cx := of_decide_eq_true H_p.out
                    rw [List.length_map] at cx
                    have dx : (cs.length : Int) ≤ 1 := by omega
                    clear cx
                    go_wp2_with fail
                    go_ret
                    exact ⟨ret_bool HF.out.symm, hbw1⟩
              · skip
                obtain ⟨t, ht⟩ : ∃ z, hasN n m ss.length (cs.map Ck.l).length (vs.map Vl.er).length false false false true true = z := ⟨_, rfl⟩
                obtain ⟨p, hp⟩ : ∃ z, decide ((cs.map Ck.l).length = (vs.map Vl.er).length) = z := ⟨_, rfl⟩
                have HF : Hid (fitsV k (.mk n m ss (cs.map Ck.l) (vs.map Vl.er)) = (t && p)) := by
                  show fitsV _ _ = _
                  rw [fits_ne k k1 k2 k3 k4 k5 k6 k7, ht, hp]
                have H_t : Hid (hasN n m ss.length cs.length vs.length false false false true true = t) := by show _ = _; rw [← ht, List.length_map, List.length_map]
                have H_p := Lib.hid hp
                clear ht hp
                go_enter Tryz.func50, Tryz.ntmps50
                go_wp2_with fail
                refine (refHas_at n m sA sc ss.length cA cc cs.length vA vc vs.length false false false true true t _ H_t.out).mono ?_
                rintro e w1 ⟨rfl, hb1⟩
                have hbw1 : Below w.heap.size w w1 := HW0.out.trans (hb1.mono HW0.out.size)
                have a0 : w1.cell? ⟨w.heap.size + 1, 0, none⟩ = some (.int .u64 n) := (hb1.cell (p := ⟨w.heap.size + 1, 0, none⟩) (by simp)).trans (by go_simp)
                have a1 : w1.cell? ⟨w.heap.size + 1, 1, none⟩ = some (.int .u64 m) := (hb1.cell (p := ⟨w.heap.size + 1, 1, none⟩) (by simp)).trans (by go_simp)
                have a2 : w1.cell? ⟨w.heap.size + 1, 2, none⟩ = some (.slice sA ss.length sc) := (hb1.cell (p := ⟨w.heap.size + 1, 2, none⟩) (by simp)).trans (by go_simp)
                have a3 : w1.cell? ⟨w.heap.size + 1, 3, none⟩ = some (.slice cA cs.length cc) := (hb1.cell (p := ⟨w.heap.size + 1, 3, none⟩) (by simp)).trans (by go_simp)
                have a4 : w1.cell? ⟨w.heap.size + 1, 4, none⟩ = some (.slice vA vs.length vc) := (hb1.cell (p := ⟨w.heap.size + 1, 4, none⟩) (by simp)).trans (by go_simp)
                have HL1 : Hid (Lies w1 sA ss) := HSL.out.below hbw1
                clear hb1 HW0
                cases t with
                | false =>
                  go_wp2_with fail
                  go_ret
                  exact ⟨ret_bool HF.out.symm, hbw1⟩
                | true =>
                  cases p with
                  | false =>
                    have cx := of_decide_eq_false H_p.out
                    rw [List.length_map, List.length_map] at cx
                    have dx : ((cs.length : Int) == (vs.length : Int)) = false := beq_eq_false_iff_ne.2 (by omega)
                    clear cx
                    go_wp2_with fail
                    go_ret
                    exact ⟨ret_bool HF.out.symm, hbw1⟩
                  | true =>
                    have cx := of_decide_eq_true H_p.out
                    rw [List.length_map, List.length_map] at cx
                    have dx : ((cs.length : Int) == (vs.length : Int)) = true := beq_iff_eq.2 (by omega)
                    clear cx
                    go_wp2_with fail
                    go_ret
                    exact ⟨ret_bool HF.out.symm, hbw1⟩
end Go.Proofs.YtleejffjnknohaaGreat.V4

namespace Go.Proofs.YtleejffjnknohaaGreat.S2
open Go.RowKit

set_option maxHeartbeats 400000 in
theorem arity_any (k : Int) (w : World) : Calls Tryz.prog 79 #[.int .i64 k] w fun e w' => e = .returned (.int .i64 (arI k)) ∧ w = w' := by
  by_cases h0 : k = 1 ∨ k = 2 ∨ k = 3 ∨ k = 6 ∨ k = 7
  · rcases h0 with rfl | rfl | rfl | rfl | rfl
    all_goals
      go_enter Tryz.func79, Tryz.ntmps79
      go_wp2
      go_ret
      exact ⟨ret_int (by decide), rfl⟩
  · by_cases h1 : k = 4 ∨ k = 8
    · rcases h1 with rfl | rfl
      all_goals
        go_enter Tryz.func79, Tryz.ntmps79
        go_wp2
        go_ret
        exact ⟨ret_int (by decide), rfl⟩
    · by_cases h2 : k = 5
      · subst h2
        go_enter Tryz.func79, Tryz.ntmps79
        go_wp2
        go_ret
        exact ⟨ret_int (by decide), rfl⟩
      · have HA : Hid (arI k = -1) := by show arI k = -1; unfold arI; rw [if_neg h0, if_neg h1, if_neg h2]
        have e1 : k ≠ 1 := fun h => h0 (by simp [h])
        have e2 : k ≠ 2 := fun h => h0 (by simp [h])
        have e3 : k ≠ 3 := fun h => h0 (by simp [h])
        have e6 : k ≠ 6 := fun h => h0 (by simp [h])
        have e7 : k ≠ 7 := fun h => h0 (by simp [h])
        have e4 : k ≠ 4 := fun h => h1 (by simp [h])
        have e8 : k ≠ 8 := fun h => h1 (by simp [h])
        clear h0 h1
        go_enter Tryz.func79, Tryz.ntmps79
        go_wp2
        go_ret
        exact ⟨ret_int HA.out.symm, rfl⟩

end Go.Proofs.YtleejffjnknohaaGreat.S2

namespace Go.Proofs.YtleejffjnknohaaGreat.S2
open Go.RowKit

/-- The deepest of them so far. -/
def dmax (n : Nat) (l : List Sc) (k : Nat) : Nat := ((l.take k).map fun x => deepT n x.er).foldl max 0

theorem dmax_succ {n : Nat} {l : List Sc} {k : Nat} {x : Sc} (hx : l[k]? = some x) : dmax n l (k + 1) = max (dmax n l k) (deepT n x.er) := by
  obtain ⟨hk, he⟩ := List.getElem?_eq_some_iff.1 hx
  unfold dmax
  rw [List.take_succ_eq_append_getElem hk, he, List.map_append, List.foldl_append]
  rfl

theorem dmax_le (n : Nat) (l : List Sc) (k : Nat) : dmax n l k ≤ n := foldl_max_le.2 ⟨by omega, fun x hx => by
  obtain ⟨y, _, rfl⟩ := List.mem_map.1 hx
  exact deepT_le n _⟩

theorem dmax_all {n : Nat} {k0 : Int} {A : Option Addr} {c : Nat} {l : List Sc} {k : Nat} (hk : l.length ≤ k) : dmax n l k + 1 = deepT (n + 1) (Sc.mk k0 A c l).er := by
  unfold dmax
  rw [List.take_of_length_le hk, deepT, er_ins, List.map_map]
  rfl

end Go.Proofs.YtleejffjnknohaaGreat.S2

namespace Go.Proofs.YtleejffjnknohaaGreat.S2
open Go.RowKit

theorem arity_quiet (k : Int) (w : World) (n : Nat) : Calls Tryz.prog 79 #[.int .i64 k] (w.drewN n) fun e w' => e = .returned (.int .i64 (arI k)) ∧ ∃ m, w' = w.drewN m :=
  (arity_any k _).mono fun _ _ ⟨h1, h2⟩ => ⟨h1, n, h2.symm⟩

theorem isT_succ (n : Nat) (k : Int) (A : Option Addr) (c : Nat) (l : List Sc) : isT (n + 1) (Sc.mk k A c l).er = (decide ((l.length : Int) = arI k) && l.all fun x => isT n x.er) := by
  rw [isT, er_ins, er_k]
  simp only [Sc.ins, Sc.k, List.length_map, List.all_map]
  rfl

theorem all_take_succ {p : Sc → Bool} {l : List Sc} {k : Nat} {x : Sc} (h0 : (l.take k).all p = true) (hx : l[k]? = some x) (h : p x = true) : (l.take (k + 1)).all p = true := by
  obtain ⟨hk, he⟩ := List.getElem?_eq_some_iff.1 hx
  rw [List.take_succ_eq_append_getElem hk, he, List.all_append, h0]
  simp [h]
theorem all_miss {p : Sc → Bool} {l : List Sc} {k : Nat} {x : Sc} (hx : l[k]? = some x) (h : p x = false) : l.all p = false := by
  rw [List.all_eq_false]
  exact ⟨x, List.mem_of_getElem? hx, by simp [h]⟩

set_option maxHeartbeats 400000 in
theorem refis_any (n : Nat) (hn : n ≤ 1000) : ∀ (N : Int) (s : Sc) (w : World), N = n → s.In w.heap.size w →
    Calls Tryz.prog 49 #[s.val, .int .i64 N] w (RetV w (.bool (isT n s.er))) := by
  induction n with
  | zero =>
    rintro N ⟨k, A, c, l⟩ w rfl -
    simp only [val_mk]
    go_enter Tryz.func49, Tryz.ntmps49
    go_wp2_with fail
    go_quiet (fail)
    go_wp2_with fail
    go_ret
    exact ⟨rfl, below_drewN (allocB _ _) _⟩
  | succ n ih =>
    rintro N ⟨k0, A, c, l⟩ w hN hin
    have hN0 : 0 < N := by omega
    have hN1 : N ≤ 1000 := by omega
    have HN : Hid (N - 1 = n) := by show N - 1 = n; omega
    clear hN
    obtain ⟨hl, hlc, hc32, hall⟩ := hin.out
    clear hin
    have IH := Lib.hid (ih (by omega))
    have HALL := Lib.hid hall
    clear ih hall
    have hdec : decide (N ≤ 0) = false := decide_eq_false (by omega)
    simp only [val_mk]
    rw [isT_succ]
    by_cases har : (l.length : Int) = arI k0
    · rw [decide_eq_true har, Bool.true_and]
      go_enter Tryz.func49, Tryz.ntmps49
      go_wp2_with fail
      go_quiet ((go_at_call 79; exact arity_quiet _ _ _))
      go_wp2_with fail
      clear har hdec
      have hbw0 : Below w.heap.size w ((w.alloc (.cells #[.int .i64 k0, .slice A l.length c] 24)).drewN nq) := below_drewN (allocB _ _) _
      go_loopw [5] (fun iv wr => ∃ (k : Nat), k ≤ l.length ∧ iv = .int .i64 k ∧ Hid ((l.take k).all (fun x => isT n x.er) = true) ∧ Below w.heap.size w wr ∧ wr.cell? ⟨w.heap.size, 1, none⟩ = some (.slice A l.length c) ∧ w.heap.size < wr.heap.size) (fun iv _ => l.length - (intOf iv).toNat)
      case atStart => exact ⟨0, Nat.zero_le _, rfl, by simp [Hid], hbw0, by simp, by simp⟩
      case round =>
        obtain ⟨k, hk, rfl, h0, hbw, hbox, hsz⟩ := hrel
        clear hbw0
        by_cases hlt : k < l.length
        · obtain ⟨b, off, rfl, hb, hc⟩ := (hl.below hbw).get hlt
          obtain ⟨x, hx⟩ : ∃ x, l[k]? = some x := ⟨_, List.getElem?_eq_getElem hlt⟩
          obtain ⟨hc0, hc1⟩ := hc k x hx
          have hxin : x.In wr.heap.size wr := ((HALL.out x (List.mem_of_getElem? hx)).later hbw)
          have HX := Lib.hid hx
          clear hx hc hl
          obtain ⟨xk, xA, xc, xl⟩ := x
          simp only [Sc.v1, Sc.k] at hc0 hc1
          obtain ⟨q, hq⟩ : ∃ q, isT n (Sc.mk xk xA xc xl).er = q := ⟨_, rfl⟩
          have HQ := Lib.hid hq
          go_wp2_with fail
          refine (IH.out _ (.mk xk xA xc xl) wr HN.out hxin).mono ?_
          rintro e w' ⟨rfl, hb2⟩
          rw [hq]
          clear hq
          have hbox2 := (hb2.cell (p := ⟨w.heap.size, 1, none⟩) hsz).trans hbox
          cases q with
          | false =>
            go_wp2_with fail
            go_ret
            exact ⟨ret_bool (all_miss HX.out HQ.out).symm, hbw.trans (hb2.mono hbw.size)⟩
          | true =>
            go_wp2_with fail
            go_roundw
            case rel => exact ⟨k + 1, by omega, by go_num, all_take_succ h0.out HX.out HQ.out, hbw.trans (hb2.mono hbw.size), hbox2, Nat.lt_of_lt_of_le hsz hb2.size⟩
            case measure => simp [intOf]; omega
        · go_wp2_with fail
          go_ret
          exact ⟨ret_bool (by have := h0.out; rw [List.take_of_length_le (by omega)] at this; exact this.symm), hbw⟩
    · rw [decide_eq_false har, Bool.false_and]
      go_enter Tryz.func49, Tryz.ntmps49
      go_wp2_with fail
      go_quiet ((go_at_call 79; exact arity_quiet _ _ _))
      go_wp2_with fail
      go_ret
      exact ⟨rfl, below_drewN (allocB _ _) _⟩
end Go.Proofs.YtleejffjnknohaaGreat.S2

namespace Go.Proofs.YtleejffjnknohaaGreat.S2
open Go.RowKit

theorem er_ne_k {k k' : Int} {A A' : Option Addr} {c c' : Nat} {l l' : List Sc} (h : k ≠ k') : decide ((Sc.mk k A c l).er = (Sc.mk k' A' c' l').er) = false := by
  rw [er_mk, er_mk]; simp [h]
theorem er_ne_len {k k' : Int} {A A' : Option Addr} {c c' : Nat} {l l' : List Sc} (h : l.length ≠ l'.length) : decide ((Sc.mk k A c l).er = (Sc.mk k' A' c' l').er) = false := by
  rw [er_mk, er_mk]
  refine decide_eq_false fun e => h ?_
  have := congrArg List.length (Tr.mk.inj e).2
  simpa using this
theorem er_ne_at {k k' : Int} {A A' : Option Addr} {c c' : Nat} {l l' : List Sc} {i : Nat} {x x' : Sc} (hx : l[i]? = some x) (hx' : l'[i]? = some x') (h : decide (x.er = x'.er) = false) : decide ((Sc.mk k A c l).er = (Sc.mk k' A' c' l').er) = false := by
  rw [er_mk, er_mk]
  refine decide_eq_false fun e => of_decide_eq_false h ?_
  have := congrArg (fun z => z[i]?) (Tr.mk.inj e).2
  simpa [hx, hx'] using this
theorem take_er_succ {l l' : List Sc} {i : Nat} {x x' : Sc} (h0 : (l.take i).map Sc.er = (l'.take i).map Sc.er) (hx : l[i]? = some x) (hx' : l'[i]? = some x') (h : decide (x.er = x'.er) = true) :
    (l.take (i + 1)).map Sc.er = (l'.take (i + 1)).map Sc.er := by
  obtain ⟨hk, he⟩ := List.getElem?_eq_some_iff.1 hx
  obtain ⟨hk', he'⟩ := List.getElem?_eq_some_iff.1 hx'
  rw [List.take_succ_eq_append_getElem hk, List.take_succ_eq_append_getElem hk', he, he', List.map_append, List.map_append, h0]
  simp [of_decide_eq_true h]
theorem er_eq_all {k : Int} {A A' : Option Addr} {c c' : Nat} {l l' : List Sc} {i : Nat} (h0 : (l.take i).map Sc.er = (l'.take i).map Sc.er) (hi : l.length ≤ i) (hi' : l'.length ≤ i) : decide ((Sc.mk k A c l).er = (Sc.mk k A' c' l').er) = true := by
  rw [List.take_of_length_le hi, List.take_of_length_le hi'] at h0
  rw [er_mk, er_mk, h0]
  exact decide_eq_true rfl

end Go.Proofs.YtleejffjnknohaaGreat.S2

namespace Go.Proofs.YtleejffjnknohaaGreat.S2
open Go.RowKit

/-- The cells that hold the schemas. -/
def cellsS (xs : List Sc) : List Value := xs.flatMap fun x => [.int .i64 x.k, x.v1]

theorem cellsS_len (xs : List Sc) : (cellsS xs).length = xs.length * 2 := by
  induction xs with
  | nil => rfl
  | cons x xs ih => simp only [cellsS, List.flatMap_cons, List.length_append, List.length_cons, List.length_nil] at ih ⊢; omega

theorem cellsS_append (xs ys : List Sc) : cellsS (xs ++ ys) = cellsS xs ++ cellsS ys := by simp [cellsS]

theorem cellsS_at {xs : List Sc} {i : Nat} {x : Sc} (h : xs[i]? = some x) : (cellsS xs)[i * 2]? = some (.int .i64 x.k) ∧ (cellsS xs)[i * 2 + 1]? = some x.v1 := by
  induction xs generalizing i with
  | nil => simp at h
  | cons y xs ih =>
    cases i with
    | zero => simp at h; subst h; simp [cellsS]
    | succ i =>
      have := ih (i := i) (by simpa using h)
      have e : (i + 1) * 2 = i * 2 + 1 + 1 := by omega
      rw [e]
      simpa [cellsS] using this

theorem lies_block {n b : Nat} {w : World} {xs : List Sc} {cs : Array Value} {t : TypeId} {fr : Nat × Nat} (hh : w.heap[b]? = some (.cells cs t fr)) (hn : b < n) (hp : ∃ r, cs.toList = cellsS xs ++ r) : LiesS n w (some ⟨b, 0, none⟩) xs := by
  obtain ⟨r, hr⟩ := hp
  refine .inr ⟨b, 0, rfl, hn, fun i x hx => ?_⟩
  obtain ⟨h1, h2⟩ := cellsS_at hx
  have g1 : cs[i * 2]? = some (.int .i64 x.k) := by
    rw [← Array.getElem?_toList, hr]
    exact List.getElem?_append_left (List.getElem?_eq_some_iff.1 h1).1 ▸ h1
  have g2 : cs[i * 2 + 1]? = some x.v1 := by
    rw [← Array.getElem?_toList, hr]
    exact List.getElem?_append_left (List.getElem?_eq_some_iff.1 h2).1 ▸ h2
  simp [World.cell?, hh, g1, g2]

theorem results_cellS {fn : Func} {p : Tmp} (h : fn.results = #[.cell p 24]) (tmps : Array Value) (w : World) (g : Nat) (v0 v1 : Value) (hp : tmps.getD p undef = .pointer (some ⟨g, 0, none⟩))
    (h0 : w.cell? ⟨g, 0, none⟩ = some v0) (h1 : w.cell? ⟨g, 1, none⟩ = some v1) : (results fn tmps).run Tryz.prog w = .ok (.agg #[v0, v1]) w := by
  have hp' : tmps[p]?.getD undef = .pointer (some ⟨g, 0, none⟩) := by simpa using hp
  simp [results, h, hp', asAddr]
  go_simp

theorem lies_one {n b : Nat} {w : World} {x : Sc} (hn : b < n) (h0 : w.cell? ⟨b, 0, none⟩ = some (.int .i64 x.k)) (h1 : w.cell? ⟨b, 1, none⟩ = some x.v1) : LiesS n w (some ⟨b, 0, none⟩) [x] := by
  refine .inr ⟨b, 0, rfl, hn, fun i y hy => ?_⟩
  match i, hy with
  | 0, hy => simp at hy; subst hy; exact ⟨h0, h1⟩
theorem lies_two {n b : Nat} {w : World} {x y : Sc} (hn : b < n) (h0 : w.cell? ⟨b, 0, none⟩ = some (.int .i64 x.k)) (h1 : w.cell? ⟨b, 1, none⟩ = some x.v1)
    (h2 : w.cell? ⟨b, 2, none⟩ = some (.int .i64 y.k)) (h3 : w.cell? ⟨b, 3, none⟩ = some y.v1) : LiesS n w (some ⟨b, 0, none⟩) [x, y] := by
  refine .inr ⟨b, 0, rfl, hn, fun i z hz => ?_⟩
  match i, hz with
  | 0, hz => simp at hz; subst hz; exact ⟨h0, h1⟩
  | 1, hz => simp at hz; subst hz; exact ⟨h2, h3⟩
theorem belAl {w w' : World} {o : Obj} (h : Below w.heap.size w w') : Below w.heap.size w (w'.alloc o) := h.alloc h.size o
theorem retS_mk {w w' : World} {t : Tr} {v : Value} (s : Sc) (hb : Below w.heap.size w w') (hv : v = s.val) (he : s.er = t) (hi : Below w.heap.size w w' → s.In w'.heap.size w') : RetS w t (.returned v) w' := ⟨s, by rw [hv], he, hi hb, hb⟩

theorem in_leaf (n : Nat) (w : World) (k : Int) : (Sc.mk k none 0 []).In n w := .mk _ _ _ _ LiesS.nil (by simp) (by simp) (by simp) (by simp)
theorem in_one {n b : Nat} {w : World} {k : Int} {x : Sc} (h : LiesS n w (some ⟨b, 0, none⟩) [x]) (hx : x.In n w) : (Sc.mk k (some ⟨b, 0, none⟩) 1 [x]).In n w := .mk _ _ _ _ h (by simp) (by decide) (by simp) (fun y hy => by rw [List.mem_singleton.1 hy]; exact hx)
theorem in_two {n b : Nat} {w : World} {k : Int} {x y : Sc} (h : LiesS n w (some ⟨b, 0, none⟩) [x, y]) (hx : x.In n w) (hy : y.In n w) : (Sc.mk k (some ⟨b, 0, none⟩) 2 [x, y]).In n w := .mk _ _ _ _ h (by simp) (by decide) (by simp) (fun z hz => by rcases List.mem_cons.1 hz with rfl | hz; exact hx; rw [List.mem_singleton.1 hz]; exact hy)

/-- A cause of s, at three places. -/
def causeS (b1 b2 b3 : Nat) (s : Sc) : Sc := .mk 8 (some ⟨b3, 0, none⟩) 1 [.mk 5 (some ⟨b2, 0, none⟩) 2 [.mk 4 (some ⟨b1, 0, none⟩) 1 [.mk 7 none 0 []], s]]
theorem causeS_er (b1 b2 b3 : Nat) (s : Sc) : (causeS b1 b2 b3 s).er = causeT s.er := by
  unfold causeS
  simp only [er_mk, List.map_cons, List.map_nil]
  rfl
theorem causeS_in {n b1 b2 b3 : Nat} {w : World} {k : Int} {A : Option Addr} {c : Nat} {l : List Sc} (h1 : b1 < n) (h2 : b2 < n) (h3 : b3 < n) (hs : (Sc.mk k A c l).In n w)
    (a0 : w.cell? ⟨b1, 0, none⟩ = some (.int .i64 7)) (a1 : w.cell? ⟨b1, 1, none⟩ = some (.slice none 0 0))
    (c0 : w.cell? ⟨b2, 0, none⟩ = some (.int .i64 4)) (c1 : w.cell? ⟨b2, 1, none⟩ = some (.slice (some ⟨b1, 0, none⟩) 1 1)) (c2 : w.cell? ⟨b2, 2, none⟩ = some (.int .i64 k)) (c3 : w.cell? ⟨b2, 3, none⟩ = some (.slice A l.length c))
    (d0 : w.cell? ⟨b3, 0, none⟩ = some (.int .i64 5)) (d1 : w.cell? ⟨b3, 1, none⟩ = some (.slice (some ⟨b2, 0, none⟩) 2 2)) : (causeS b1 b2 b3 (.mk k A c l)).In n w :=
  in_one (lies_one h3 d0 d1) (in_two (lies_two h2 c0 c1 c2 c3) (in_one (lies_one h1 a0 a1) (in_leaf _ _ _)) hs)

set_option maxHeartbeats 400000 in
theorem refIs_any : ∀ (s : Sc) (w : World), s.In w.heap.size w → Calls Tryz.prog 31 #[s.val] w (RetV w (.bool (isT 16 s.er))) := by
  rintro ⟨k0, A, c, l⟩ w hin
  have HIN := Lib.hid (hin.later (allocB w (.cells #[.int .i64 k0, .slice A l.length c] 24)))
  clear hin
  simp only [val_mk]
  go_enter Tryz.func31, Tryz.ntmps31
  go_wp2_with fail
  refine (callV (allocB w _) (refis_any 16 (by decide) 16 (.mk k0 A c l) _ rfl HIN.out)).mono ?_
  rintro e w' ⟨rfl, hb⟩
  go_wp2_with fail
  go_ret
  exact ⟨rfl, hb⟩

end Go.Proofs.YtleejffjnknohaaGreat.S2
