/- What the reference's is and Is do. No condition but that what they take lies in memory. What Rises does, of the reference, and rises, of the program. No condition but that the slices read as strings. What a value by a schema is, as plain mathematics; what the reference's siblings does. No condition but that what it takes lies in memory. What the reference's fits does. No condition but that the value lies in memory. What the reference's short and has do. No condition but that the texts lie in memory. What the reference's Size and ahead do. No condition but that what they take lies in memory. What the reference's under and CmpClocks do. No condition but that the ticks lie in memory. What the reference's Of, SameClocks, IsClock do. No condition but that the ticks lie in memory. -/
import Derived.Test.YtleejffjnknohaaGreatMo01
import Derived.Test.YtleejffjnknohaaGreatMo02
import Derived.Test.YtleejffjnknohaaGreatMo03
import Derived.Test.YtleejffjnknohaaGreatMo04
import Derived.Test.YtleejffjnknohaaGreatMo05
import Derived.Test.YtleejffjnknohaaGreatMo06
import Derived.Test.YtleejffjnknohaaGreatMo07
import Derived.Test.YtleejffjnknohaaGreatMo08
import Derived.Test.YtleejffjnknohaaGreatMo09
import Derived.Test.YtleejffjnknohaaGreatMo10
import Derived.Test.YtleejffjnknohaaGreatMo11
import Derived.Test.YtleejffjnknohaaGreatMo12
import Derived.Test.YtleejffjnknohaaGreatMo13
import Derived.Test.YtleejffjnknohaaGreatMo14
import Derived.Test.YtleejffjnknohaaGreatMo15
import Derived.Test.YtleejffjnknohaaGreatMo16
import Derived.Test.YtleejffjnknohaaGreatMo17
import Derived.Test.YtleejffjnknohaaGreatMo18
import Derived.Test.YtleejffjnknohaaGreatMo19
import Derived.Test.YtleejffjnknohaaGreatMo20
import Derived.Test.YtleejffjnknohaaGreatMo21
import Derived.Test.YtleejffjnknohaaGreatMo22
import Derived.Test.YtleejffjnknohaaGreatMo23
import Derived.Test.YtleejffjnknohaaGreatMo24
import Derived.Test.YtleejffjnknohaaGreatMo25
import Derived.StillTailTactics
import Derived.Deep.RegionHeld3
import Derived.Deep.DeepCutAuto
import Derived.Sort.CutIn
import Derived.WalkKit
import Derived.ProofKit
import Derived.OpenShut
namespace Go.Proofs.YtleejffjnknohaaGreat.C3
open Go.RowKit

theorem ofC_drop {l : List Tk} {i : Nat} {x : Tk} {q : Int} (hx : l[i]? = some x) : ofC (l.drop i) q = if x.k = q then x.n else ofC (l.drop (i + 1)) q := by
  obtain ⟨hi, he⟩ := List.getElem?_eq_some_iff.1 hx
  rw [List.drop_eq_getElem_cons hi, he, ofC]

set_option maxHeartbeats 400000 in
theorem refOf_any (A : Option Addr) (c : Nat) (l : List Tk) (q : Int) (w : World) (h : In w A c l) :
    Calls Tryz.prog 128 #[.slice A l.length c, .int .i64 q] w fun e w' => e = .returned (.int .u64 (ofC l q)) ∧ w = w' := by
  obtain ⟨hl, hcap, htop, -⟩ := h
  have hlm : l.length ≤ 9223372036854775807 := by unfold maxLen at htop; omega
  clear hcap htop
  go_enter Tryz.func128, Tryz.ntmps128
  go_wp2_with fail
  go_loop [5] (fun iv => ∃ k : Nat, k ≤ l.length ∧ iv = .int .i64 k ∧ Hid (ofC l q = ofC (l.drop k) q)) (fun iv => l.length - (intOf iv).toNat)
  case atStart => exact ⟨0, Nat.zero_le _, rfl, by simp [Hid]⟩
  case round =>
    obtain ⟨k, hk, rfl, h0⟩ := hrel
    by_cases hlt : k < l.length
    · obtain ⟨b, off, rfl, hb, hc⟩ := hl.get hlt
      obtain ⟨x, hx⟩ : ∃ x, l[k]? = some x := ⟨_, List.getElem?_eq_getElem hlt⟩
      obtain ⟨hc0, hc1⟩ := hc k x hx
      have HX := Lib.hid hx
      clear hx hc hl
      by_cases he : x.k = q
      · have HE := Lib.hid he
        have hbq : (x.k == q) = true := by simp [he]
        clear he
        go_wp2_with fail
        go_ret
        refine ⟨ret_int ?_, rfl⟩
        rw [h0.out, ofC_drop HX.out, if_pos HE.out]
      · have HE := Lib.hid he
        have hbq : (x.k == q) = false := by simp [he]
        clear he
        go_wp2_with fail
        go_round
        case rel => exact ⟨k + 1, by omega, by go_num, by show ofC l q = _; rw [h0.out, ofC_drop HX.out, if_neg HE.out]⟩
        case measure => simp [intOf]; omega
    · go_wp2_with fail
      go_ret
      refine ⟨ret_int ?_, rfl⟩
      rw [h0.out, List.drop_eq_nil_of_le (by omega)]
      rfl

end Go.Proofs.YtleejffjnknohaaGreat.C3

namespace Go.Proofs.YtleejffjnknohaaGreat.C3
open Go.RowKit

theorem refOf_quiet (A : Option Addr) (c : Nat) (l : List Tk) (q v : Int) (w : World) (n : Nat) (h : In w A c l) (hv : ofC l q = v) : Calls Tryz.prog 128 #[.slice A l.length c, .int .i64 q] (w.drewN n) fun e w' => e = .returned (.int .u64 v) ∧ ∃ m, w' = w.drewN m :=
  hv ▸ (refOf_any A c l q _ (h.drewN n)).mono fun _ _ ⟨h1, h2⟩ => ⟨h1, n, h2.symm⟩

theorem all_succ {p : Tk → Bool} {l : List Tk} {k : Nat} {x : Tk} (h0 : (l.take k).all p = true) (hx : l[k]? = some x) (h : p x = true) : (l.take (k + 1)).all p = true := by
  obtain ⟨hi, he⟩ := List.getElem?_eq_some_iff.1 hx
  rw [List.take_succ_eq_append_getElem hi, List.all_append, h0, he]
  simp [h]
theorem all_end {p : Tk → Bool} {l : List Tk} {k : Nat} (h0 : (l.take k).all p = true) (h : l.length ≤ k) : l.all p = true := by rwa [List.take_of_length_le h] at h0
theorem all_fail {p : Tk → Bool} {l : List Tk} {k : Nat} {x : Tk} (hx : l[k]? = some x) (h : p x = false) : l.all p = false := by
  rw [List.all_eq_false]
  exact ⟨x, List.mem_of_getElem? hx, by simp [h]⟩

set_option maxHeartbeats 400000 in
theorem refUnder_any (A A' : Option Addr) (c c' : Nat) (l l' : List Tk) (w : World) (h : In w A c l) (h' : In w A' c' l') :
    Calls Tryz.prog 110 #[.slice A l.length c, .slice A' l'.length c'] w (RetV w (.bool (underC l l'))) := by
  obtain ⟨hl, hcap, htop, -⟩ := h
  have HB := Lib.hid h'
  have hlm : l.length ≤ 9223372036854775807 := by unfold maxLen at htop; omega
  clear hcap htop h'
  go_enter Tryz.func110, Tryz.ntmps110
  go_wp2_with fail
  go_loopw [5] (fun iv wr => ∃ k : Nat, k ≤ l.length ∧ iv = .int .i64 k ∧ Hid ((l.take k).all (fun t => decide (t.n ≤ ofC l' t.k)) = true) ∧ Below w.heap.size w wr) (fun iv _ => l.length - (intOf iv).toNat)
  case atStart => exact ⟨0, Nat.zero_le _, rfl, by simp [Hid], Below.refl _ _⟩
  case round =>
    obtain ⟨k, hk, rfl, h0, hbw⟩ := hrel
    by_cases hlt : k < l.length
    · obtain ⟨b, off, rfl, hb, hc⟩ := (hl.below hbw).get hlt
      obtain ⟨x, hx⟩ : ∃ x, l[k]? = some x := ⟨_, List.getElem?_eq_getElem hlt⟩
      obtain ⟨hc0, hc1⟩ := hc k x hx
      have HX := Lib.hid hx
      clear hx hc hl
      obtain ⟨xk, xn⟩ := x
      dsimp only at hc0 hc1
      have hki : (k : Int) < (l.length : Int) := by omega
      replace HB := Lib.hid (HB.out.later hbw)
      obtain ⟨q, hq⟩ : ∃ q, ofC l' xk = q := ⟨_, rfl⟩
      have HQ := Lib.hid hq
      clear hq
      by_cases hle : xn ≤ q
      · have HP : Hid ((fun t : Tk => decide (t.n ≤ ofC l' t.k)) ⟨xk, xn⟩ = true) := by show decide (xn ≤ ofC l' xk) = true; rw [HQ.out]; exact decide_eq_true hle
        have d1 : decide (q < xn) = false := decide_eq_false (by omega)
        clear hle
        go_wp2_with fail
        go_quiet ((go_at_call 128; exact refOf_quiet _ _ _ _ _ _ _ HB.out HQ.out))
        go_wp2_with fail
        go_roundw
        case rel => exact ⟨k + 1, by omega, by go_num, all_succ h0.out HX.out HP.out, below_drewN hbw _⟩
        case measure => simp [intOf]; omega
      · have HP : Hid ((fun t : Tk => decide (t.n ≤ ofC l' t.k)) ⟨xk, xn⟩ = false) := by show decide (xn ≤ ofC l' xk) = false; rw [HQ.out]; exact decide_eq_false hle
        have d1 : q < xn := by omega
        clear hle
        go_wp2_with fail
        go_quiet ((go_at_call 128; exact refOf_quiet _ _ _ _ _ _ _ HB.out HQ.out))
        go_wp2_with fail
        go_ret
        exact ⟨ret_bool (all_fail HX.out HP.out).symm, below_drewN hbw _⟩
    · go_wp2_with fail
      go_ret
      exact ⟨ret_bool (all_end h0.out (by omega)).symm, hbw⟩

set_option maxHeartbeats 400000 in
theorem refCmp_any (A A' : Option Addr) (c c' : Nat) (l l' : List Tk) (w : World) (h : In w A c l) (h' : In w A' c' l') :
    Calls Tryz.prog 83 #[.slice A l.length c, .slice A' l'.length c'] w (RetV w (.int .i64 (cmpC l l'))) := by
  have HA := Lib.hid h
  have HB := Lib.hid h'
  clear h h'
  obtain ⟨p, hp⟩ : ∃ p, underC l l' = p := ⟨_, rfl⟩
  obtain ⟨q, hq⟩ : ∃ q, underC l' l = q := ⟨_, rfl⟩
  have HC : Hid (cmpC l l' = cmpB p q) := by show cmpC l l' = _; unfold cmpC; rw [hp, hq]
  have HP := Lib.hid hp
  have HQ := Lib.hid hq
  clear hp hq
  rw [HC.out]
  go_enter Tryz.func83, Tryz.ntmps83
  go_wp2_with fail
  refine (refUnder_any A A' c c' l l' w HA.out HB.out).mono ?_
  rintro e w1 ⟨rfl, hb1⟩
  rw [HP.out]
  go_wp2_with fail
  refine (refUnder_any A' A c' c l' l w1 (HB.out.later hb1) (HA.out.later hb1)).mono ?_
  rintro e w2 ⟨rfl, hb2⟩
  rw [HQ.out]
  have hb3 : Below w.heap.size w w2 := hb1.trans (hb2.mono hb1.size)
  cases p <;> cases q
  all_goals
    go_wp2_with fail
    go_ret
    exact ⟨rfl, hb3⟩
end Go.Proofs.YtleejffjnknohaaGreat.C3

namespace Go.Proofs.YtleejffjnknohaaGreat.V4
open Go.RowKit
open C3 (Tk Asc isC ofC cmpC Nok In belAl allocB drewB RetT)

set_option maxHeartbeats 1000000 in
theorem refAhead_any (A A' : Option Addr) (c c' : Nat) (l l' : List Tk) (w : World) (h : In w A c l) (h' : In w A' c' l') :
    Calls Tryz.prog 82 #[.slice A l.length c, .slice A' l'.length c'] w (RetV w (.bool (aheadC l l'))) := by
  obtain ⟨hl, hcap, htop, -⟩ := h
  obtain ⟨hl', hcap', htop', -⟩ := h'
  have hlm : l.length ≤ 9223372036854775807 := by unfold maxLen at htop; omega
  have hlm' : l'.length ≤ 9223372036854775807 := by unfold maxLen at htop'; omega
  clear hcap htop hcap' htop'
  go_enter Tryz.func82, Tryz.ntmps82
  go_wp2_with fail
  go_loopw [5] (fun iv wr => ∃ k : Nat, k ≤ l.length ∧ k ≤ l'.length ∧ iv = .int .i64 k ∧ Hid (aheadC l l' = aheadC (l.drop k) (l'.drop k)) ∧ Below w.heap.size w wr) (fun iv _ => l.length - (intOf iv).toNat)
  case atStart => exact ⟨0, Nat.zero_le _, Nat.zero_le _, rfl, by simp [Hid], Below.refl _ _⟩
  case round =>
    obtain ⟨k, hk, hk', rfl, h0, hbw⟩ := hrel
    by_cases hlt : k < l.length ∧ k < l'.length
    · obtain ⟨hlt, hlt'⟩ := hlt
      obtain ⟨b, off, rfl, hb, hc⟩ := (hl.below hbw).get hlt
      obtain ⟨x, hx⟩ : ∃ x, l[k]? = some x := ⟨_, List.getElem?_eq_getElem hlt⟩
      obtain ⟨hc0, hc1⟩ := hc k x hx
      have HX := Lib.hid hx
      obtain ⟨b', off', rfl, hb', hc'⟩ := (hl'.below hbw).get hlt'
      obtain ⟨y, hy⟩ : ∃ y, l'[k]? = some y := ⟨_, List.getElem?_eq_getElem hlt'⟩
      obtain ⟨hd0, hd1⟩ := hc' k y hy
      have HY := Lib.hid hy
      have HD : Hid (aheadC l l' = if x.k = y.k then (if x.n = y.n then aheadC (l.drop (k + 1)) (l'.drop (k + 1)) else decide (x.n < y.n)) else decide (x.k < y.k)) := by
        show aheadC l l' = _
        rw [h0.out, aheadC_drop hx hy]
      clear hx hc hl hy hc' hl'
      obtain ⟨xk, xn⟩ := x
      obtain ⟨yk, yn⟩ := y
      dsimp only at hc0 hc1 hd0 hd1 HD
      have hki : (k : Int) < (l.length : Int) := by omega
      have hki' : (k : Int) < (l'.length : Int) := by omega
      by_cases he : xk = yk
      · have e1 : (xk == yk) = true := by simp [he]
        have HE := Lib.hid he
        clear he
        by_cases hn : xn = yn
        · have e2 : (xn == yn) = true := by simp [hn]
          have HN := Lib.hid hn
          clear hn
          go_wp2_with fail
          go_quiet (fail)
          go_wp2_with fail
          go_quiet (fail)
          go_wp2_with fail
          go_roundw
          case rel => exact ⟨k + 1, by omega, by omega, by go_num, by show aheadC l l' = _; rw [HD.out, if_pos HE.out, if_pos HN.out], below_drewN hbw _⟩
          case measure => simp [intOf]; omega
        · have e2 : (xn == yn) = false := by simp [hn]
          have HN := Lib.hid hn
          clear hn
          go_wp2_with fail
          go_quiet (fail)
          go_wp2_with fail
          go_quiet (fail)
          go_wp2_with fail
          go_quiet (fail)
          go_wp2_with fail
          go_ret
          exact ⟨ret_bool (by rw [HD.out, if_pos HE.out, if_neg HN.out]), below_drewN (below_drewN (below_drewN hbw _) _) _⟩
      · have e1 : (xk == yk) = false := by simp [he]
        have HE := Lib.hid he
        clear he
        go_wp2_with fail
        go_quiet (fail)
        go_wp2_with fail
        go_quiet (fail)
        go_wp2_with fail
        go_ret
        exact ⟨ret_bool (by rw [HD.out, if_neg HE.out]), below_drewN (below_drewN hbw _) _⟩
    · by_cases h1 : k < l.length
      · have h2 : k = l'.length := by omega
        have d2 : decide ((k : Int) < (l'.length : Int)) = false := decide_eq_false (by omega)
        clear hlt
        go_wp2_with fail
        go_ret
        refine ⟨ret_bool ?_, hbw⟩
        rw [h0.out, aheadC_end (.inr (by omega)) (by omega) (by omega)]
      · have d1 : decide ((k : Int) < (l.length : Int)) = false := decide_eq_false (by omega)
        clear hlt
        go_wp2_with fail
        go_ret
        refine ⟨ret_bool ?_, hbw⟩
        rw [h0.out, aheadC_end (.inl (by omega)) (by omega) (by omega)]
end Go.Proofs.YtleejffjnknohaaGreat.V4

namespace Go.Proofs.YtleejffjnknohaaGreat.V4
open Go.RowKit
open C3 (Tk Asc isC ofC cmpC Nok In belAl allocB drewB RetT)

theorem all_succ {α : Type} {p : α → Bool} {l : List α} {k : Nat} {x : α} (h0 : (l.take k).all p = true) (hx : l[k]? = some x) (h : p x = true) : (l.take (k + 1)).all p = true := by
  obtain ⟨hi, he⟩ := List.getElem?_eq_some_iff.1 hx
  rw [List.take_succ_eq_append_getElem hi, List.all_append, h0, he]
  simp [h]
theorem all_end {α : Type} {p : α → Bool} {l : List α} {k : Nat} (h0 : (l.take k).all p = true) (h : l.length ≤ k) : l.all p = true := by rwa [List.take_of_length_le h] at h0
theorem all_fail {α : Type} {p : α → Bool} {l : List α} {k : Nat} {x : α} (hx : l[k]? = some x) (h : p x = false) : l.all p = false := by
  rw [List.all_eq_false]
  exact ⟨x, List.mem_of_getElem? hx, by simp [h]⟩

set_option maxHeartbeats 400000 in
theorem refShort_any (A : Option Addr) (c : Nat) (ss : List Str) (w : World) (hl : Lies w A ss) (hn : ss.length ≤ maxLen) (ht : ∀ s ∈ ss, s.length ≤ maxLen) :
    Calls Tryz.prog 81 #[.slice A ss.length c] w fun e w' => e = .returned (.bool (shortV ss)) ∧ w = w' := by
  unfold maxLen at hn
  have HT := Lib.hid ht
  clear ht
  go_enter Tryz.func81, Tryz.ntmps81
  go_wp2_with fail
  go_loop [3] (fun iv => ∃ k : Nat, k ≤ ss.length ∧ iv = .int .i64 k ∧ Hid ((ss.take k).all (fun s => decide (s.length ≤ 16)) = true)) (fun iv => ss.length - (intOf iv).toNat)
  case atStart => exact ⟨0, Nat.zero_le _, rfl, by simp [Hid]⟩
  case round =>
    obtain ⟨k, hk, rfl, h0⟩ := hrel
    by_cases hlt : k < ss.length
    · obtain ⟨b, off, rfl, hb, hc⟩ := hl.get hlt
      obtain ⟨x, hx⟩ : ∃ x, ss[k]? = some x := ⟨_, List.getElem?_eq_getElem hlt⟩
      have hc0 := hc k x hx
      have HX := Lib.hid hx
      have hxm : x.length ≤ 9223372036854775807 := by have := HT.out x (List.mem_of_getElem? hx); unfold maxLen at this; omega
      have hxs : (S x).size = x.length := S_size x
      clear hx hc hl
      by_cases c1 : x.length ≤ 16
      · have HP : Hid ((fun s : Str => decide (s.length ≤ 16)) x = true) := decide_eq_true c1
        have d1 : decide (16 < (x.length : Int)) = false := decide_eq_false (by omega)
        go_wp2_with fail
        go_round
        case rel => exact ⟨k + 1, by omega, by go_num, all_succ h0.out HX.out HP.out⟩
        case measure => simp [intOf]; omega
      · have HP : Hid ((fun s : Str => decide (s.length ≤ 16)) x = false) := decide_eq_false c1
        have d1 : 16 < x.length := by omega
        go_wp2_with fail
        go_ret
        exact ⟨ret_bool (all_fail HX.out HP.out).symm, rfl⟩
    · go_wp2_with fail
      go_ret
      exact ⟨ret_bool (all_end h0.out (by omega)).symm, rfl⟩

set_option maxHeartbeats 8000000 in
theorem refHas_any (n m : Int) (sA : Option Addr) (sc a : Nat) (cA : Option Addr) (cc b : Nat) (vA : Option Addr) (vc d : Nat) (p q r s t : Bool) (w : World) :
    Calls Tryz.prog 80 #[.agg #[.int .u64 n, .int .u64 m, .slice sA a sc, .slice cA b cc, .slice vA d vc], .bool p, .bool q, .bool r, .bool s, .bool t] w (RetV w (.bool (hasN n m a b d p q r s t))) := by
  have hp : p = true ∨ (p = false ∧ n = 0) ∨ (p = false ∧ ¬ n = 0) := by cases p <;> simp <;> exact Decidable.em _
  have hq : q = true ∨ (q = false ∧ m = 0) ∨ (q = false ∧ ¬ m = 0) := by cases q <;> simp <;> exact Decidable.em _
  have hr : r = true ∨ (r = false ∧ a = 0) ∨ (r = false ∧ ¬ a = 0) := by cases r <;> simp <;> exact Decidable.em _
  have hs : s = true ∨ (s = false ∧ b = 0) ∨ (s = false ∧ ¬ b = 0) := by cases s <;> simp <;> exact Decidable.em _
  have ht : t = true ∨ (t = false ∧ d = 0) ∨ (t = false ∧ ¬ d = 0) := by cases t <;> simp <;> exact Decidable.em _
  obtain ⟨R, hR⟩ : ∃ R, hasN n m a b d p q r s t = R := ⟨_, rfl⟩
  rw [hR]
  have HR := Lib.hid hR
  clear hR
  rcases hp with rfl | ⟨rfl, rfl⟩ | ⟨rfl, h1⟩
  rotate_left 2
  · have e1 : (n == 0) = false := by simp [h1]
    have HF : Hid (R = false) := by show R = false; rw [← HR.out]; simp [hasN, h1]
    clear hq hr hs ht h1
    go_enter Tryz.func80, Tryz.ntmps80
    go_wp2_with fail
    go_ret
    exact ⟨ret_bool HF.out.symm, allocB _ _⟩
  all_goals
    rcases hq with rfl | ⟨rfl, rfl⟩ | ⟨rfl, h1⟩
    rotate_left 2
    · have e1 : (m == 0) = false := by simp [h1]
      have HF : Hid (R = false) := by show R = false; rw [← HR.out]; simp [hasN, h1]
      clear hr hs ht h1
      go_enter Tryz.func80, Tryz.ntmps80
      go_wp2_with fail
      go_ret
      exact ⟨ret_bool HF.out.symm, allocB _ _⟩
    all_goals
      rcases hr with rfl | ⟨rfl, rfl⟩ | ⟨rfl, h1⟩
      rotate_left 2
      · have e1 : ((a : Int) == 0) = false := by simp [h1]
        have HF : Hid (R = false) := by show R = false; rw [← HR.out]; simp [hasN, h1]
        clear hs ht
        go_enter Tryz.func80, Tryz.ntmps80
        go_wp2_with fail
        go_ret
        exact ⟨ret_bool HF.out.symm, allocB _ _⟩
      all_goals
        rcases hs with rfl | ⟨rfl, rfl⟩ | ⟨rfl, h1⟩
        rotate_left 2
        · have e1 : ((b : Int) == 0) = false := by simp [h1]
          have HF : Hid (R = false) := by show R = false; rw [← HR.out]; simp [hasN, h1]
          clear ht
          go_enter Tryz.func80, Tryz.ntmps80
          go_wp2_with fail
          go_ret
          exact ⟨ret_bool HF.out.symm, allocB _ _⟩
        all_goals
          rcases ht with rfl | ⟨rfl, rfl⟩ | ⟨rfl, h1⟩
          rotate_left 2
          · have e1 : ((d : Int) == 0) = false := by simp [h1]
            have HF : Hid (R = false) := by show R = false; rw [← HR.out]; simp [hasN, h1]
            go_enter Tryz.func80, Tryz.ntmps80
            go_wp2_with fail
            go_ret
            exact ⟨ret_bool HF.out.symm, allocB _ _⟩
          all_goals
            have HF : Hid (R = true) := by show R = true; rw [← HR.out]; simp [hasN]
            go_enter Tryz.func80, Tryz.ntmps80
            go_wp2_with fail
            go_ret
            exact ⟨ret_bool HF.out.symm, allocB _ _⟩
end Go.Proofs.YtleejffjnknohaaGreat.V4

namespace Go.Proofs.YtleejffjnknohaaGreat.V4
open Go.RowKit
open C3 (Tk Asc isC ofC cmpC Nok In belAl allocB drewB RetT)

theorem refHas_at (n m : Int) (sA : Option Addr) (sc a : Nat) (cA : Option Addr) (cc b : Nat) (vA : Option Addr) (vc d : Nat) (p q r s t v : Bool) (w : World) (hv : hasN n m a b d p q r s t = v) :
    Calls Tryz.prog 80 #[.agg #[.int .u64 n, .int .u64 m, .slice sA a sc, .slice cA b cc, .slice vA d vc], .bool p, .bool q, .bool r, .bool s, .bool t] w (RetV w (.bool v)) := hv ▸ refHas_any n m sA sc a cA cc b vA vc d p q r s t w
theorem refShort_at (A : Option Addr) (c : Nat) (ss : List Str) (v : Bool) (w : World) (hl : Lies w A ss) (hn : ss.length ≤ maxLen) (ht : ∀ s ∈ ss, s.length ≤ maxLen) (hv : shortV ss = v) :
    Calls Tryz.prog 81 #[.slice A ss.length c] w fun e w' => e = .returned (.bool v) ∧ w = w' := hv ▸ refShort_any A c ss w hl hn ht

set_option maxRecDepth 100000 in
set_option maxHeartbeats 4000000 in
theorem refFits_any (k : Int) (A : Option Addr) (c ln : Nat) (x : Vl) (w : World) (hin : x.In w) : Calls Tryz.prog 50 #[.agg #[.int .i64 k, .slice A ln c], x.val] w (RetV w (.bool (fitsV k x.er))) := by
  obtain ⟨n, m, sA, sc, ss, cA, cc, cs, vA, vc, vs⟩ := x
  have hW0 : Below w.heap.size w ((w.alloc (.cells #[.int .i64 k, .slice A ln c] 24)).alloc (.cells #[.int .u64 n, .int .u64 m, .slice sA ss.length sc, .slice cA cs.length cc, .slice vA vs.length vc] 32)) := belAl (allocB _ _)
  have P := hin.out
  have HP := Lib.hid P
  have HSB : Hid (ss.length ≤ maxLen) := Nat.le_trans P.sb.1 P.sb.2.1
  have HST := Lib.hid P.st
  have HSL := Lib.hid P.sl
  have hsm : ss.length ≤ 9223372036854775807 := by have := P.sb; unfold maxLen at this; omega
  have hcm : cs.length ≤ 9223372036854775807 := by have := P.cb; unfold maxLen at this; omega
  have hvm : vs.length ≤ 9223372036854775807 := by have := P.vb; unfold maxLen at this; omega
  obtain ⟨hn0, hn1⟩ := P.hn
  obtain ⟨hm0, hm1⟩ := P.hm
  have HW0 := Lib.hid hW0
  clear hin P hW0
  simp only [val_mk, er_mk]
  by_cases k1 : k = 1
  · subst k1
    obtain ⟨t, ht⟩ : ∃ z, hasN n m ss.length (cs.map Ck.l).length (vs.map Vl.er).length true false false false false = z := ⟨_, rfl⟩
    have HF : Hid (fitsV 1 (.mk n m ss (cs.map Ck.l) (vs.map Vl.er)) = (t)) := by
      show fitsV _ _ = _
      rw [fits_1, ht]
    have H_t : Hid (hasN n m ss.length cs.length vs.length true false false false false = t) := by show _ = _; rw [← ht, List.length_map, List.length_map]
    clear ht
    go_enter Tryz.func50, Tryz.ntmps50
    go_wp2_with fail
    refine (refHas_at n m sA sc ss.length cA cc cs.length vA vc vs.length true false false false false t _ H_t.out).mono ?_
    rintro e w1 ⟨rfl, hb1⟩
    have hbw1 : Below w.heap.size w w1 := HW0.out.trans (hb1.mono HW0.out.size)
    have a0 : w1.cell? ⟨w.heap.size + 1, 0, none⟩ = some (.int .u64 n) := (hb1.cell (p := ⟨w.heap.size + 1, 0, none⟩) (by simp)).trans (by go_simp)
    have a1 : w1.cell? ⟨w.heap.size + 1, 1, none⟩ = some (.int .u64 m) := (hb1.cell (p := ⟨w.heap.size + 1, 1, none⟩) (by simp)).trans (by go_simp)
    have a2 : w1.cell? ⟨w.heap.size + 1, 2, none⟩ = some (.slice sA ss.length sc) := (hb1.cell (p := ⟨w.heap.size + 1, 2, none⟩) (by simp)).trans (by go_simp)
    have a3 : w1.cell? ⟨w.heap.size + 1, 3, none⟩ = some (.slice cA cs.length cc) := (hb1.cell (p := ⟨w.heap.size + 1, 3, none⟩) (by simp)).trans (by go_simp)
    have a4 : w1.cell? ⟨w.heap.size + 1, 4, none⟩ = some (.slice vA vs.length vc) := (hb1.cell (p := ⟨w.heap.size + 1, 4, none⟩) (by simp)).trans (by go_simp)
    have HL1 : Hid (Lies w1 sA ss) := HSL.out.below hbw1
    clear hb1 HW0
    cases t with
    | false =>
      go_wp2_with fail
      go_ret
      exact ⟨ret_bool HF.out.symm, hbw1⟩
    | true =>
      go_wp2_with fail
      go_ret
      exact ⟨ret_bool HF.out.symm, hbw1⟩
  · skip
    by_cases k2 : k = 2
    · subst k2
      obtain ⟨t, ht⟩ : ∃ z, hasN n m ss.length (cs.map Ck.l).length (vs.map Vl.er).length true false false false false = z := ⟨_, rfl⟩
      obtain ⟨p, hp⟩ : ∃ z, decide (n ≤ 1) = z := ⟨_, rfl⟩
      have HF : Hid (fitsV 2 (.mk n m ss (cs.map Ck.l) (vs.map Vl.er)) = (t && p)) := by
        show fitsV _ _ = _
        rw [fits_2, ht, hp]
      have H_t : Hid (hasN n m ss.length cs.length vs.length true false false false false = t) := by show _ = _; rw [← ht, List.length_map, List.length_map]
      clear ht
      have H_p := Lib.hid hp
      clear hp
      go_enter Tryz.func50, Tryz.ntmps50
      go_wp2_with fail
      refine (refHas_at n m sA sc ss.length cA cc cs.length vA vc vs.length true false false false false t _ H_t.out).mono ?_
      rintro e w1 ⟨rfl, hb1⟩
      have hbw1 : Below w.heap.size w w1 := HW0.out.trans (hb1.mono HW0.out.size)
      have a0 : w1.cell? ⟨w.heap.size + 1, 0, none⟩ = some (.int .u64 n) := (hb1.cell (p := ⟨w.heap.size + 1, 0, none⟩) (by simp)).trans (by go_simp)
      have a1 : w1.cell? ⟨w.heap.size + 1, 1, none⟩ = some (.int .u64 m) := (hb1.cell (p := ⟨w.heap.size + 1, 1, none⟩) (by simp)).trans (by go_simp)
      have a2 : w1.cell? ⟨w.heap.size + 1, 2, none⟩ = some (.slice sA ss.length sc) := (hb1.cell (p := ⟨w.heap.size + 1, 2, none⟩) (by simp)).trans (by go_simp)
      have a3 : w1.cell? ⟨w.heap.size + 1, 3, none⟩ = some (.slice cA cs.length cc) := (hb1.cell (p := ⟨w.heap.size + 1, 3, none⟩) (by simp)).trans (by go_simp)
      have a4 : w1.cell? ⟨w.heap.size + 1, 4, none⟩ = some (.slice vA vs.length vc) := (hb1.cell (p := ⟨w.heap.size + 1, 4, none⟩) (by simp)).trans (by go_simp)
      have HL1 : Hid (Lies w1 sA ss) := HSL.out.below hbw1
      clear hb1 HW0
      cases t with
      | false =>
        go_wp2_with fail
        go_ret
        exact ⟨ret_bool HF.out.symm, hbw1⟩
      | true =>
        cases p with
        | false =>
          have cx := of_decide_eq_false H_p.out
          have dx : decide (n ≤ 1) = false := decide_eq_false cx
          clear cx
          go_wp2_with fail
          go_ret
          exact ⟨ret_bool HF.out.symm, hbw1⟩
        | true =>
          have cx := of_decide_eq_true H_p.out
          have dx : n ≤ 1 := cx
          clear cx
          go_wp2_with fail
          go_ret
          exact ⟨ret_bool HF.out.symm, hbw1⟩
    · skip
      by_cases k3 : k = 3
      · subst k3
        obtain ⟨t, ht⟩ : ∃ z, hasN n m ss.length (cs.map Ck.l).length (vs.map Vl.er).length false false true false false = z := ⟨_, rfl⟩
        obtain ⟨u, hu⟩ : ∃ z, shortV ss = z := ⟨_, rfl⟩
        have HF : Hid (fitsV 3 (.mk n m ss (cs.map Ck.l) (vs.map Vl.er)) = (t && u)) := by
          show fitsV _ _ = _
          rw [fits_3, ht, hu]
        have H_t : Hid (hasN n m ss.length cs.length vs.length false false true false false = t) := by show _ = _; rw [← ht, List.length_map, List.length_map]
        clear ht
        have H_u := Lib.hid hu
        clear hu
        go_enter Tryz.func50, Tryz.ntmps50
        go_wp2_with fail
        refine (refHas_at n m sA sc ss.length cA cc cs.length vA vc vs.length false false true false false t _ H_t.out).mono ?_
        rintro e w1 ⟨rfl, hb1⟩
        have hbw1 : Below w.heap.size w w1 := HW0.out.trans (hb1.mono HW0.out.size)
        have a0 : w1.cell? ⟨w.heap.size + 1, 0, none⟩ = some (.int .u64 n) := (hb1.cell (p := ⟨w.heap.size + 1, 0, none⟩) (by simp)).trans (by go_simp)
        have a1 : w1.cell? ⟨w.heap.size + 1, 1, none⟩ = some (.int .u64 m) := (hb1.cell (p := ⟨w.heap.size + 1, 1, none⟩) (by simp)).trans (by go_simp)
        have a2 : w1.cell? ⟨w.heap.size + 1, 2, none⟩ = some (.slice sA ss.length sc) := (hb1.cell (p := ⟨w.heap.size + 1, 2, none⟩) (by simp)).trans (by go_simp)
        have a3 : w1.cell? ⟨w.heap.size + 1, 3, none⟩ = some (.slice cA cs.length cc) := (hb1.cell (p := ⟨w.heap.size + 1, 3, none⟩) (by simp)).trans (by go_simp)
        have a4 : w1.cell? ⟨w.heap.size + 1, 4, none⟩ = some (.slice vA vs.length vc) := (hb1.cell (p := ⟨w.heap.size + 1, 4, none⟩) (by simp)).trans (by go_simp)
        have HL1 : Hid (Lies w1 sA ss) := HSL.out.below hbw1
        clear hb1 HW0
        cases t with
        | false =>
          go_wp2_with fail
          go_ret
          exact ⟨ret_bool HF.out.symm, hbw1⟩
        | true =>
          go_wp2_with fail
          refine (refShort_at sA sc ss u _ HL1.out HSB.out HST.out H_u.out).mono ?_
          rintro e w2 ⟨rfl, rfl⟩
          cases u with
          | false =>
            go_wp2_with fail
            go_ret
            exact ⟨ret_bool HF.out.symm, hbw1⟩
          | true =>
            go_wp2_with fail
            go_ret
            exact ⟨ret_bool HF.out.symm, hbw1⟩
      · skip
        by_cases k4 : k = 4
        · subst k4
          obtain ⟨t, ht⟩ : ∃ z, hasN n m ss.length (cs.map Ck.l).length (vs.map Vl.er).length false false true false true = z := ⟨_, rfl⟩
          obtain ⟨u, hu⟩ : ∃ z, shortV ss = z := ⟨_, rfl⟩
          obtain ⟨p, hp⟩ : ∃ z, decide (ss.length = (vs.map Vl.er).length) = z := ⟨_, rfl⟩
          have HF : Hid (fitsV 4 (.mk n m ss (cs.map Ck.l) (vs.map Vl.er)) = (t && (u && p))) := by
            show fitsV _ _ = _
            rw [fits_4, ht, hu, hp]
          have H_t : Hid (hasN n m ss.length cs.length vs.length false false true false true = t) := by show _ = _; rw [← ht, List.length_map, List.length_map]
          clear ht
          have H_u := Lib.hid hu
          clear hu
          have H_p := Lib.hid hp
          clear hp
          go_enter Tryz.func50, Tryz.ntmps50
          go_wp2_with fail
          refine (refHas_at n m sA sc ss.length cA cc cs.length vA vc vs.length false false true false true t _ H_t.out).mono ?_
          rintro e w1 ⟨rfl, hb1⟩
          have hbw1 : Below w.heap.size w w1 := HW0.out.trans (hb1.mono HW0.out.size)
          have a0 : w1.cell? ⟨w.heap.size + 1, 0, none⟩ = some (.int .u64 n) := (hb1.cell (p := ⟨w.heap.size + 1, 0, none⟩) (by simp)).trans (by go_simp)
          have a1 : w1.cell? ⟨w.heap.size + 1, 1, none⟩ = some (.int .u64 m) := (hb1.cell (p := ⟨w.heap.size + 1, 1, none⟩) (by simp)).trans (by go_simp)
          have a2 : w1.cell? ⟨w.heap.size + 1, 2, none⟩ = some (.slice sA ss.length sc) := (hb1.cell (p := ⟨w.heap.size + 1, 2, none⟩) (by simp)).trans (by go_simp)
          have a3 : w1.cell? ⟨w.heap.size + 1, 3, none⟩ = some (.slice cA cs.length cc) := (hb1.cell (p := ⟨w.heap.size + 1, 3, none⟩) (by simp)).trans (by go_simp)
          have a4 : w1.cell? ⟨w.heap.size + 1, 4, none⟩ = some (.slice vA vs.length vc) := (hb1.cell (p := ⟨w.heap.size + 1, 4, none⟩) (by simp)).trans (by go_simp)
          have HL1 : Hid (Lies w1 sA ss) := HSL.out.below hbw1
          clear hb1 HW0
          cases t with
          | false =>
            go_wp2_with fail
            go_ret
            exact ⟨ret_bool HF.out.symm, hbw1⟩
          | true =>
            go_wp2_with fail
            refine (refShort_at sA sc ss u _ HL1.out HSB.out HST.out H_u.out).mono ?_
            rintro e w2 ⟨rfl, rfl⟩
            cases u with
            | false =>
              go_wp2_with fail
              go_ret
              exact ⟨ret_bool HF.out.symm, hbw1⟩
            | true =>
              cases p with
              | false =>
                have cx := of_decide_eq_false H_p.out
                rw [List.length_map] at cx
                have dx : ((ss.length : Int) == (vs.length : Int)) = false := beq_eq_false_iff_ne.2 (by omega)
                clear cx
                go_wp2_with fail
                go_ret
                exact ⟨ret_bool HF.out.symm, hbw1⟩
              | true =>
                have cx := of_decide_eq_true H_p.out
                rw [List.length_map] at cx
                have dx : ((ss.length : Int) == (vs.length : Int)) = true := beq_iff_eq.2 (by omega)
                clear cx
                go_wp2_with fail
                go_ret
                exact ⟨ret_bool HF.out.symm, hbw1⟩
        · skip
          by_cases k5 : k = 5
          · subst k5
            obtain ⟨t, ht⟩ : ∃ z, hasN n m ss.length (cs.map Ck.l).length (vs.map Vl.er).length false false false false true = z := ⟨_, rfl⟩
            obtain ⟨p, hp⟩ : ∃ z, decide ((vs.map Vl.er).length = 2) = z := ⟨_, rfl⟩
            have HF : Hid (fitsV 5 (.mk n m ss (cs.map Ck.l) (vs.map Vl.er)) = (t && p)) := by
              show fitsV _ _ = _
              rw [fits_5, ht, hp]
            have H_t : Hid (hasN n m ss.length cs.length vs.length false false false false true = t) := by show _ = _; rw [← ht, List.length_map, List.length_map]
            clear ht
            have H_p := Lib.hid hp
            clear hp
            go_enter Tryz.func50, Tryz.ntmps50
            go_wp2_with fail
            refine (refHas_at n m sA sc ss.length cA cc cs.length vA vc vs.length false false false false true t _ H_t.out).mono ?_
            rintro e w1 ⟨rfl, hb1⟩
            have hbw1 : Below w.heap.size w w1 := HW0.out.trans (hb1.mono HW0.out.size)
            have a0 : w1.cell? ⟨w.heap.size + 1, 0, none⟩ = some (.int .u64 n) := (hb1.cell (p := ⟨w.heap.size + 1, 0, none⟩) (by simp)).trans (by go_simp)
            have a1 : w1.cell? ⟨w.heap.size + 1, 1, none⟩ = some (.int .u64 m) := (hb1.cell (p := ⟨w.heap.size + 1, 1, none⟩) (by simp)).trans (by go_simp)
            have a2 : w1.cell? ⟨w.heap.size + 1, 2, none⟩ = some (.slice sA ss.length sc) := (hb1.cell (p := ⟨w.heap.size + 1, 2, none⟩) (by simp)).trans (by go_simp)
            have a3 : w1.cell? ⟨w.heap.size + 1, 3, none⟩ = some (.slice cA cs.length cc) := (hb1.cell (p := ⟨w.heap.size + 1, 3, none⟩) (by simp)).trans (by go_simp)
            have a4 : w1.cell? ⟨w.heap.size + 1, 4, none⟩ = some (.slice vA vs.length vc) := (hb1.cell (p := ⟨w.heap.size + 1, 4, none⟩) (by simp)).trans (by go_simp)
            have HL1 : Hid (Lies w1 sA ss) := HSL.out.below hbw1
            clear hb1 HW0
            cases t with
            | false =>
              go_wp2_with fail
              go_ret
              exact ⟨ret_bool HF.out.symm, hbw1⟩
            | true =>
              cases p with
              | false =>
                have cx := of_decide_eq_false H_p.out
                rw [List.length_map] at cx
                have dx : ((vs.length : Int) == 2) = false := beq_eq_false_iff_ne.2 (by omega)
                clear cx
                go_wp2_with fail
                go_ret
                exact ⟨ret_bool HF.out.symm, hbw1⟩
              | true =>
                have cx := of_decide_eq_true H_p.out
                rw [List.length_map] at cx
                have dx : ((vs.length : Int) == 2) = true := beq_iff_eq.2 (by omega)
                clear cx
                go_wp2_with fail
                go_ret
                exact ⟨ret_bool HF.out.symm, hbw1⟩
          · skip
            by_cases k6 : k = 6
            · subst k6
              by_cases c0 : ss.length = 0
              · have e0 : ss = [] := List.eq_nil_of_length_eq_zero c0
                subst e0
                clear c0
                obtain ⟨t, ht⟩ : ∃ z, hasN n m ([] : List Str).length (cs.map Ck.l).length (vs.map Vl.er).length false false false false false = z := ⟨_, rfl⟩
                have HF : Hid (fitsV 6 (.mk n m [] (cs.map Ck.l) (vs.map Vl.er)) = t) := by
                  show fitsV _ _ = _
                  rw [fits_6, if_pos List.length_nil, ht]
                have H_t : Hid (hasN n m 0 cs.length vs.length false false false false false = t) := by show _ = _; rw [← ht, List.length_map, List.length_map]; rfl
                clear ht
                go_enter Tryz.func50, Tryz.ntmps50
                go_wp2_with fail
                refine (refHas_at n m sA sc 0 cA cc cs.length vA vc vs.length false false false false false t _ H_t.out).mono ?_
                rintro e w1 ⟨rfl, hb1⟩
                have hbw1 : Below w.heap.size w w1 := HW0.out.trans (hb1.mono HW0.out.size)
                have a0 : w1.cell? ⟨w.heap.size + 1, 0, none⟩ = some (.int .u64 n) := (hb1.cell (p := ⟨w.heap.size + 1, 0, none⟩) (by simp)).trans (by go_simp)
                have a1 : w1.cell? ⟨w.heap.size + 1, 1, none⟩ = some (.int .u64 m) := (hb1.cell (p := ⟨w.heap.size + 1, 1, none⟩) (by simp)).trans (by go_simp)
                have a2 : w1.cell? ⟨w.heap.size + 1, 2, none⟩ = some (.slice sA 0 sc) := (hb1.cell (p := ⟨w.heap.size + 1, 2, none⟩) (by simp)).trans (by go_simp)
                have a3 : w1.cell? ⟨w.heap.size + 1, 3, none⟩ = some (.slice cA cs.length cc) := (hb1.cell (p := ⟨w.heap.size + 1, 3, none⟩) (by simp)).trans (by go_simp)
                have a4 : w1.cell? ⟨w.heap.size + 1, 4, none⟩ = some (.slice vA vs.length vc) := (hb1.cell (p := ⟨w.heap.size + 1, 4, none⟩) (by simp)).trans (by go_simp)
                have HL1 : Hid (Lies w1 sA []) := HSL.out.below hbw1
                clear hb1 HW0
                cases t with
                | false =>
                  go_wp2_with fail
                  go_ret
                  exact ⟨ret_bool HF.out.symm, hbw1⟩
                | true =>
                  go_wp2_with fail
                  go_ret
                  exact ⟨ret_bool HF.out.symm, hbw1⟩
              · have d0 : ((ss.length : Int) == 0) = false := beq_eq_false_iff_ne.2 (by omega)
                obtain ⟨t, ht⟩ : ∃ z, hasN n m ss.length (cs.map Ck.l).length (vs.map Vl.er).length true true true false false = z := ⟨_, rfl⟩
                obtain ⟨p1, hp1⟩ : ∃ z, decide (ss.length = 1) = z := ⟨_, rfl⟩
                obtain ⟨u, hu⟩ : ∃ z, shortV ss = z := ⟨_, rfl⟩
                obtain ⟨q1, hq1⟩ : ∃ z, decide (n ≠ 0) = z := ⟨_, rfl⟩
                obtain ⟨q2, hq2⟩ : ∃ z, decide (m ≠ 0) = z := ⟨_, rfl⟩
                obtain ⟨q3, hq3⟩ : ∃ z, decide (ss ≠ [[]]) = z := ⟨_, rfl⟩
                have HF : Hid (fitsV 6 (.mk n m ss (cs.map Ck.l) (vs.map Vl.er)) = (t && (p1 && (u && (q1 || (q2 || q3)))))) := by
                  show fitsV _ _ = _
                  rw [fits_6, if_neg c0, ht, hp1, hu, hq1, hq2, hq3]
                have H_t : Hid (hasN n m ss.length cs.length vs.length true true true false false = t) := by show _ = _; rw [← ht, List.length_map, List.length_map]
                have H_p1 := Lib.hid hp1
                have H_u := Lib.hid hu
                have H_q1 := Lib.hid hq1
                have H_q2 := Lib.hid hq2
                have H_q3 := Lib.hid hq3
                clear c0 ht hp1 hu hq1 hq2 hq3
                go_enter Tryz.func50, Tryz.ntmps50
                go_wp2_with fail
                refine (refHas_at n m sA sc ss.length cA cc cs.length vA vc vs.length true true true false false t _ H_t.out).mono ?_
                rintro e w1 ⟨rfl, hb1⟩
                have hbw1 : Below w.heap.size w w1 := HW0.out.trans (hb1.mono HW0.out.size)
                have a0 : w1.cell? ⟨w.heap.size + 1, 0, none⟩ = some (.int .u64 n) := (hb1.cell (p := ⟨w.heap.size + 1, 0, none⟩) (by simp)).trans (by go_simp)
                have a1 : w1.cell? ⟨w.heap.size + 1, 1, none⟩ = some (.int .u64 m) := (hb1.cell (p := ⟨w.heap.size + 1, 1, none⟩) (by simp)).trans (by go_simp)
                have a2 : w1.cell? ⟨w.heap.size + 1, 2, none⟩ = some (.slice sA ss.length sc) := (hb1.cell (p := ⟨w.heap.size + 1, 2, none⟩) (by simp)).trans (by go_simp)
                have a3 : w1.cell? ⟨w.heap.size + 1, 3, none⟩ = some (.slice cA cs.length cc) := (hb1.cell (p := ⟨w.heap.size + 1, 3, none⟩) (by simp)).trans (by go_simp)
                have a4 : w1.cell? ⟨w.heap.size + 1, 4, none⟩ = some (.slice vA vs.length vc) := (hb1.cell (p := ⟨w.heap.size + 1, 4, none⟩) (by simp)).trans (by go_simp)
                have HL1 : Hid (Lies w1 sA ss) := HSL.out.below hbw1
                clear hb1 HW0
                cases t with
                | false =>
                  go_wp2_with fail
                  go_ret
                  exact ⟨ret_bool HF.out.symm, hbw1⟩
                | true =>
                  cases p1 with
                  | false =>
                    have cx := of_decide_eq_false H_p1.out
                    have dx : ((ss.length : Int) == 1) = false := beq_eq_false_iff_ne.2 (by omega)
                    clear cx
                    go_wp2_with fail
                    go_ret
                    exact ⟨ret_bool HF.out.symm, hbw1⟩
                  | true =>
                    have cx := of_decide_eq_true H_p1.out
                    obtain ⟨s, rfl⟩ : ∃ s, ss = [s] := List.length_eq_one_iff.1 cx
                    clear cx
                    clear d0
                    obtain ⟨b, off, rfl, hb, hc⟩ := HL1.out.get (k := 0) (by simp)
                    have hc0 := hc 0 s rfl
                    simp only [Nat.add_zero] at hc0
                    clear hc
                    go_wp2_with fail
                    refine (refShort_at _ sc [s] u _ HL1.out HSB.out HST.out H_u.out).mono ?_
                    rintro e w2 ⟨rfl, rfl⟩
                    cases u with
                    | false =>
                      go_wp2_with fail
                      go_ret
                      exact ⟨ret_bool HF.out.symm, hbw1⟩
                    | true =>
                      cases q1 with
                      | true =>
                        have d1 : (n == 0) = false := by have := of_decide_eq_true H_q1.out; simp [this]
                        have d1' : (n != 0) = true := by have := of_decide_eq_true H_q1.out; simp [this]
                        go_wp2_with fail
                        go_ret
                        exact ⟨ret_bool HF.out.symm, hbw1⟩
                      | false =>
                        have e1 : n = 0 := by have := of_decide_eq_false H_q1.out; omega
                        subst e1
                        cases q2 with
                        | true =>
                          have d2 : (m == 0) = false := by have := of_decide_eq_true H_q2.out; simp [this]
                          have d2' : (m != 0) = true := by have := of_decide_eq_true H_q2.out; simp [this]
                          go_wp2_with fail
                          go_ret
                          exact ⟨ret_bool HF.out.symm, hbw1⟩
                        | false =>
                          have e2 : m = 0 := by have := of_decide_eq_false H_q2.out; omega
                          subst e2
                          cases q3 with
                          | true =>
                            have d3 : List.isEmpty s = false := by
                              cases s with
                              | nil => exact absurd rfl (of_decide_eq_true H_q3.out)
                              | cons => rfl
                            go_wp2_with fail
                            go_ret
                            exact ⟨ret_bool HF.out.symm, hbw1⟩
                          | false =>
                            have e3 : s = [] := by have := of_decide_eq_false H_q3.out; simpa using this
                            subst e3
                            go_wp2_with fail
                            go_ret
                            exact ⟨ret_bool HF.out.symm, hbw1⟩
            · skip
              by_cases k7 : k = 7
              · subst k7
                obtain ⟨t, ht⟩ : ∃ z, hasN n m ss.length (cs.map Ck.l).length (vs.map Vl.er).length false false false true false = z := ⟨_, rfl⟩
                obtain ⟨p, hp⟩ : ∃ z, decide ((cs.map Ck.l).length ≤ 1) = z := ⟨_, rfl⟩
                have HF : Hid (fitsV 7 (.mk n m ss (cs.map Ck.l) (vs.map Vl.er)) = (t && p)) := by
                  show fitsV _ _ = _
                  rw [fits_7, ht, hp]
                have H_t : Hid (hasN n m ss.length cs.length vs.length false false false true false = t) := by show _ = _; rw [← ht, List.length_map, List.length_map]
                clear ht
                have H_p := Lib.hid hp
                clear hp
                go_enter Tryz.func50, Tryz.ntmps50
                go_wp2_with fail
                refine (refHas_at n m sA sc ss.length cA cc cs.length vA vc vs.length false false false true false t _ H_t.out).mono ?_
                rintro e w1 ⟨rfl, hb1⟩
                have hbw1 : Below w.heap.size w w1 := HW0.out.trans (hb1.mono HW0.out.size)
                have a0 : w1.cell? ⟨w.heap.size + 1, 0, none⟩ = some (.int .u64 n) := (hb1.cell (p := ⟨w.heap.size + 1, 0, none⟩) (by simp)).trans (by go_simp)
                have a1 : w1.cell? ⟨w.heap.size + 1, 1, none⟩ = some (.int .u64 m) := (hb1.cell (p := ⟨w.heap.size + 1, 1, none⟩) (by simp)).trans (by go_simp)
                have a2 : w1.cell? ⟨w.heap.size + 1, 2, none⟩ = some (.slice sA ss.length sc) := (hb1.cell (p := ⟨w.heap.size + 1, 2, none⟩) (by simp)).trans (by go_simp)
                have a3 : w1.cell? ⟨w.heap.size + 1, 3, none⟩ = some (.slice cA cs.length cc) := (hb1.cell (p := ⟨w.heap.size + 1, 3, none⟩) (by simp)).trans (by go_simp)
                have a4 : w1.cell? ⟨w.heap.size + 1, 4, none⟩ = some (.slice vA vs.length vc) := (hb1.cell (p := ⟨w.heap.size + 1, 4, none⟩) (by simp)).trans (by go_simp)
                have HL1 : Hid (Lies w1 sA ss) := HSL.out.below hbw1
                clear hb1 HW0
                cases t with
                | false =>
                  go_wp2_with fail
                  go_ret
                  exact ⟨ret_bool HF.out.symm, hbw1⟩
                | true =>
                  cases p with
                  | false =>
                    have cx := of_decide_eq_false H_p.out
                    rw [List.length_map] at cx
                    have dx : decide ((cs.length : Int) ≤ 1) = false := decide_eq_false (by omega)
                    clear cx
                    go_wp2_with fail
                    go_ret
                    exact ⟨ret_bool HF.out.symm, hbw1⟩
                  | true =>
                    have cx := of_decide_eq_true H_p.out
                    rw [List.length_map] at cx
                    have dx : (cs.length : Int) ≤ 1 := by omega
                    clear cx
                    go_wp2_with fail
                    go_ret
                    exact ⟨ret_bool HF.out.symm, hbw1⟩
              · skip
                obtain ⟨t, ht⟩ : ∃ z, hasN n m ss.length (cs.map Ck.l).length (vs.map Vl.er).length false false false true true = z := ⟨_, rfl⟩
                obtain ⟨p, hp⟩ : ∃ z, decide ((cs.map Ck.l).length = (vs.map Vl.er).length) = z := ⟨_, rfl⟩
                have HF : Hid (fitsV k (.mk n m ss (cs.map Ck.l) (vs.map Vl.er)) = (t && p)) := by
                  show fitsV _ _ = _
                  rw [fits_ne k k1 k2 k3 k4 k5 k6 k7, ht, hp]
                have H_t : Hid (hasN n m ss.length cs.length vs.length false false false true true = t) := by show _ = _; rw [← ht, List.length_map, List.length_map]
                have H_p := Lib.hid hp
                clear ht hp
                go_enter Tryz.func50, Tryz.ntmps50
                go_wp2_with fail
                refine (refHas_at n m sA sc ss.length cA cc cs.length vA vc vs.length false false false true true t _ H_t.out).mono ?_
                rintro e w1 ⟨rfl, hb1⟩
                have hbw1 : Below w.heap.size w w1 := HW0.out.trans (hb1.mono HW0.out.size)
                have a0 : w1.cell? ⟨w.heap.size + 1, 0, none⟩ = some (.int .u64 n) := (hb1.cell (p := ⟨w.heap.size + 1, 0, none⟩) (by simp)).trans (by go_simp)
                have a1 : w1.cell? ⟨w.heap.size + 1, 1, none⟩ = some (.int .u64 m) := (hb1.cell (p := ⟨w.heap.size + 1, 1, none⟩) (by simp)).trans (by go_simp)
                have a2 : w1.cell? ⟨w.heap.size + 1, 2, none⟩ = some (.slice sA ss.length sc) := (hb1.cell (p := ⟨w.heap.size + 1, 2, none⟩) (by simp)).trans (by go_simp)
                have a3 : w1.cell? ⟨w.heap.size + 1, 3, none⟩ = some (.slice cA cs.length cc) := (hb1.cell (p := ⟨w.heap.size + 1, 3, none⟩) (by simp)).trans (by go_simp)
                have a4 : w1.cell? ⟨w.heap.size + 1, 4, none⟩ = some (.slice vA vs.length vc) := (hb1.cell (p := ⟨w.heap.size + 1, 4, none⟩) (by simp)).trans (by go_simp)
                have HL1 : Hid (Lies w1 sA ss) := HSL.out.below hbw1
                clear hb1 HW0
                cases t with
                | false =>
                  go_wp2_with fail
                  go_ret
                  exact ⟨ret_bool HF.out.symm, hbw1⟩
                | true =>
                  cases p with
                  | false =>
                    have cx := of_decide_eq_false H_p.out
                    rw [List.length_map, List.length_map] at cx
                    have dx : ((cs.length : Int) == (vs.length : Int)) = false := beq_eq_false_iff_ne.2 (by omega)
                    clear cx
                    go_wp2_with fail
                    go_ret
                    exact ⟨ret_bool HF.out.symm, hbw1⟩
                  | true =>
                    have cx := of_decide_eq_true H_p.out
                    rw [List.length_map, List.length_map] at cx
                    have dx : ((cs.length : Int) == (vs.length : Int)) = true := beq_iff_eq.2 (by omega)
                    clear cx
                    go_wp2_with fail
                    go_ret
                    exact ⟨ret_bool HF.out.symm, hbw1⟩
end Go.Proofs.YtleejffjnknohaaGreat.V4

namespace Go.Proofs.YtleejffjnknohaaGreat.V4
open Go.RowKit
open C3 (Tk Asc isC ofC cmpC Nok In belAl allocB drewB RetT)
open S2 (Tr Sc isT)

theorem sibGo_step {p : Va → Bool} {cs : List (List Tk)} {vs : List Va} {i : Nat} {c : List Tk} {v : Va} (hc : cs[i]? = some c) (hv : vs[i]? = some v) :
    sibGo p (cs.take i) (cs.drop i) (vs.drop i) = (isC c && (p v && (lastAhead (cs.take i) c && ((cs.take i).all (fun d => decide (cmpC d c = 2)) && sibGo p (cs.take (i + 1)) (cs.drop (i + 1)) (vs.drop (i + 1)))))) := by
  obtain ⟨h1, e1⟩ := List.getElem?_eq_some_iff.1 hc
  obtain ⟨h2, e2⟩ := List.getElem?_eq_some_iff.1 hv
  rw [List.drop_eq_getElem_cons h1, List.drop_eq_getElem_cons h2, e1, e2, sibGo, List.take_succ_eq_append_getElem h1, e1]
theorem sibGo_end {p : Va → Bool} {pre cs : List (List Tk)} {vs : List Va} (h : cs = []) : sibGo p pre cs vs = true := by
  subst h
  rw [sibGo]
  simp

theorem last_zero (cs : List (List Tk)) (c : List Tk) : lastAhead (cs.take 0) c = true := by simp [lastAhead]
theorem last_succ {cs : List (List Tk)} {j : Nat} {c d : List Tk} (h : cs[j]? = some d) : lastAhead (cs.take (j + 1)) c = aheadC d c := by
  obtain ⟨hi, he⟩ := List.getElem?_eq_some_iff.1 h
  unfold lastAhead
  rw [List.take_succ_eq_append_getElem hi, List.getLast?_append, he]
  simp

theorem refIsC_at (A : Option Addr) (c : Nat) (l : List Tk) (v : Bool) (w : World) (h : In w A c l) (hv : isC l = v) : Calls Tryz.prog 52 #[.slice A l.length c] w (RetV w (.bool v)) := hv ▸ C3.refIs_any A c l w h
theorem refAhead_at (A A' : Option Addr) (c c' : Nat) (l l' : List Tk) (v : Bool) (w : World) (h : In w A c l) (h' : In w A' c' l') (hv : aheadC l l' = v) :
    Calls Tryz.prog 82 #[.slice A l.length c, .slice A' l'.length c'] w (RetV w (.bool v)) := hv ▸ refAhead_any A A' c c' l l' w h h'
theorem refCmp_at (A A' : Option Addr) (c c' : Nat) (l l' : List Tk) (v : Int) (w : World) (h : In w A c l) (h' : In w A' c' l') (hv : cmpC l l' = v) :
    Calls Tryz.prog 83 #[.slice A l.length c, .slice A' l'.length c'] w (RetV w (.int .i64 v)) := hv ▸ C3.refCmp_any A A' c c' l l' w h h'

theorem map_at {α β : Type} {f : α → β} {l : List α} {i : Nat} {x : α} (h : l[i]? = some x) : (l.map f)[i]? = some (f x) := by rw [List.getElem?_map, h]; rfl

set_option maxRecDepth 100000 in
set_option maxHeartbeats 4000000 in
theorem refSib_any (k : Int) (A : Option Addr) (c : Nat) (a : Sc) (x : Vl) (w : World) (hs : (Sc.mk k A c [a]).In w.heap.size w) (hx : x.In w) (hlen : x.er.c.length = x.er.v.length)
    (p : Va → Bool) (ih : ∀ (y : Vl) (w : World), a.In w.heap.size w → y.In w → Calls Tryz.prog 32 #[a.val, y.val] w (RetV w (.bool (p y.er)))) :
    Calls Tryz.prog 53 #[(Sc.mk k A c [a]).val, x.val] w (RetV w (.bool (sibsV p x.er))) := by
  obtain ⟨n, m, sA, sc, ss, cA, cc, cs, vA, vc, vs⟩ := x
  have HB0 : Hid (Below w.heap.size w ((w.alloc (.cells #[.int .i64 k, .slice A 1 c] 24)).alloc (.cells #[.int .u64 n, .int .u64 m, .slice sA ss.length sc, .slice cA cs.length cc, .slice vA vs.length vc] 32))) := belAl (allocB _ _)
  obtain ⟨hl0, -, -, hall⟩ := hs.out
  obtain ⟨b, off, rfl, hb, hcl⟩ := hl0.get (k := 0) (by simp)
  obtain ⟨h0, h1⟩ := hcl 0 a rfl
  have HA := Lib.hid (hall a (by simp))
  have P := hx.out
  have HP := Lib.hid P
  have hcm : cs.length ≤ 9223372036854775807 := by have := P.cb; unfold maxLen at this; omega
  have HLEN : Hid (cs.length = vs.length) := by show cs.length = vs.length; rw [er_mk] at hlen; simpa [Va.c, Va.v] using hlen
  have HR : Hid (sibsV p (Vl.mk n m sA sc ss cA cc cs vA vc vs).er = (decide (cs.length ≤ 40) && sibGo p [] (cs.map Ck.l) (vs.map Vl.er))) := by
    show sibsV _ _ = _
    rw [er_mk]
    unfold sibsV Va.c Va.v
    simp
  have IH := Lib.hid ih
  rw [HR.out]
  clear hl0 hall hcl hs hx P hlen ih HR
  obtain ⟨ak, aA, ac, al⟩ := a
  simp only [S2.Sc.v1, S2.Sc.k, Nat.zero_mul, Nat.add_zero] at h0 h1
  simp only [S2.val_mk] at IH
  simp only [S2.val_mk, val_mk, List.length_cons, List.length_nil, Nat.zero_add]
  have HC : Hid (SibCells w ((w.alloc (.cells #[.int .i64 k, .slice (some ⟨b, off, none⟩) 1 c] 24)).alloc (.cells #[.int .u64 n, .int .u64 m, .slice sA ss.length sc, .slice cA cs.length cc, .slice vA vs.length vc] 32)) (some ⟨b, off, none⟩) c b off ak aA ac al.length cA cc cs.length vA vc vs.length) :=
    ⟨by go_simp, by go_simp, by go_simp, (HB0.out.cell (p := ⟨b, off, none⟩) hb).trans h0, (HB0.out.cell (p := ⟨b, off + 1, none⟩) hb).trans h1, by simp, by simp; omega, HB0.out⟩
  clear HB0 h0 h1 hb
  by_cases c40 : cs.length ≤ 40
  · rw [decide_eq_true c40, Bool.true_and]
    have d40 : decide (40 < (cs.length : Int)) = false := decide_eq_false (by omega)
    obtain ⟨R, hR⟩ : ∃ R, sibGo p [] (cs.map Ck.l) (vs.map Vl.er) = R := ⟨_, rfl⟩
    rw [hR]
    have HR := Lib.hid hR
    clear hR
    go_enter Tryz.func53, Tryz.ntmps53
    go_wp2_with fail
    generalize ((w.alloc (.cells #[.int .i64 k, .slice (some ⟨b, off, none⟩) 1 c] 24)).alloc (.cells #[.int .u64 n, .int .u64 m, .slice sA ss.length sc, .slice cA cs.length cc, .slice vA vs.length vc] 32)) = W0 at *
    go_loopw [5] (fun iv wr => ∃ (i : Nat), i ≤ cs.length ∧ iv = .int .i64 i ∧ Hid (sibGo p ((cs.map Ck.l).take i) ((cs.map Ck.l).drop i) ((vs.map Vl.er).drop i) = R) ∧ Hid (SibCells w wr (some ⟨b, off, none⟩) c b off ak aA ac al.length cA cc cs.length vA vc vs.length)) (fun iv _ => cs.length - (intOf iv).toNat)
    case atStart => exact ⟨0, Nat.zero_le _, rfl, by simp only [List.take_zero, List.drop_zero]; exact HR, HC⟩
    case round =>
      obtain ⟨i, hi, rfl, h0, hC⟩ := hrel
      clear HR HC
      obtain ⟨q1, q2, q3, q4, q5, hsz, hbb, hbw⟩ := hC.out
      by_cases hlt : i < cs.length
      · have hltv : i < vs.length := by have := HLEN.out; omega
        obtain ⟨x, hx⟩ : ∃ x, cs[i]? = some x := ⟨_, List.getElem?_eq_getElem hlt⟩
        obtain ⟨y, hy⟩ : ∃ y, vs[i]? = some y := ⟨_, List.getElem?_eq_getElem hltv⟩
        obtain ⟨b1, off1, rfl, hb1, hcx⟩ := clock_at (HP.out.cl.below hbw) hx
        obtain ⟨b2, off2, rfl, hb2, hy0, hy1, hy2, hy3, hy4⟩ := value_at (HP.out.vl.below hbw) hy
        have hIX := (HP.out.ck x (List.mem_of_getElem? hx)).later hbw
        have hIY := (HP.out.vk y (List.mem_of_getElem? hy)).later hbw
        have HE : Hid (SibE w (some ⟨b, off, none⟩) c b off ak aA ac al (some ⟨b1, off1, none⟩) cc cs.length (some ⟨b2, off2, none⟩) vc vs.length b1 (off1 + i) b2 (off2 + i * 5) x y wr.drew) :=
          SibE.later ⟨hC.out, hcx, hy0, hy1, hy2, hy3, hy4, Nat.lt_of_lt_of_le hb1 hbw.size, Nat.lt_of_lt_of_le hb2 hbw.size, hIX, hIY, (HA.out.keep hbw).up hbw.size⟩ (drewB wr)
        have HX := Lib.hid hx
        have HY := Lib.hid hy
        have HG := Lib.hid ((sibGo_step (p := p) (map_at (f := Ck.l) hx) (map_at (f := Vl.er) hy)).symm.trans h0.out)
        obtain ⟨u1, hu1⟩ : ∃ u, isC x.l = u := ⟨_, rfl⟩
        obtain ⟨u2, hu2⟩ : ∃ u, p y.er = u := ⟨_, rfl⟩
        rw [hu1, hu2] at HG
        have HU1 := Lib.hid hu1
        have HU2 := Lib.hid hu2
        clear hx hy hcx hy0 hy1 hy2 hy3 hy4 hIX hIY hu1 hu2 h0 hC hbw
        obtain ⟨xA, xc, xl⟩ := x
        obtain ⟨yn, ym, ysA, ysc, yss, ycA, ycc, ycs, yvA, yvc, yvs⟩ := y
        dsimp only at HU1 HG
        have hli : (i : Int) < (cs.length : Int) := by omega
        have hliv : (i : Int) < (vs.length : Int) := by omega
        clear q1 q3 q4 q5
        cases u1 with
        | false =>
          have HF : Hid (R = false) := by show R = false; rw [← HG.out]; rfl
          go_wp2_with fail
          refine wp_region_noPanic ?_
          refine wp_region_held_drew (S := (fun w' => w'.cell? ⟨w.heap.size, 1, none⟩ = some (.slice (some ⟨b, off, none⟩) 1 c) ∧ w'.cell? ⟨w.heap.size + 1, 3, none⟩ = some (.slice (some ⟨b1, off1, none⟩) cs.length cc) ∧ w'.cell? ⟨w.heap.size + 1, 4, none⟩ = some (.slice (some ⟨b2, off2, none⟩) vs.length vc) ∧ w'.cell? ⟨b, off, none⟩ = some (.int .i64 ak) ∧ w'.cell? ⟨b, off + 1, none⟩ = some (.slice aA al.length ac) ∧ w'.cell? ⟨b1, off1 + i, none⟩ = some (.slice xA xl.length xc) ∧ w'.cell? ⟨b2, off2 + i * 5, none⟩ = some (.int .u64 yn) ∧ w'.cell? ⟨b2, off2 + i * 5 + 1, none⟩ = some (.int .u64 ym) ∧ w'.cell? ⟨b2, off2 + i * 5 + 2, none⟩ = some (.slice ysA yss.length ysc) ∧ w'.cell? ⟨b2, off2 + i * 5 + 3, none⟩ = some (.slice ycA ycs.length ycc) ∧ w'.cell? ⟨b2, off2 + i * 5 + 4, none⟩ = some (.slice yvA yvs.length yvc))) (by kernel_rfl) ?_ (fun hHeld => ?_)
          · exact ⟨HE.out.S.i1, HE.out.S.c3, HE.out.S.c4, HE.out.S.s0, HE.out.S.s1, HE.out.x0, HE.out.y0, HE.out.y1, HE.out.y2, HE.out.y3, HE.out.y4⟩
          refine takeH 0 18 (v := ?q1_v0) rfl rfl (by kernel_rfl) (by kernel_rfl) (by kernel_rfl) (fun _ _ _ h => h) (Or.inl ⟨by rfl, ?q1_h0⟩) (by assumption) ?q1_r0
          case q1_h0 => (intro w hSw; (try dsimp only at hSw); go_simp; try (with_reducible rfl))
          simp only [List.set_cons_zero, List.set_cons_succ]
          refine takeH 1 19 (v := ?q1_v1) rfl rfl (by kernel_rfl) (by kernel_rfl) (by kernel_rfl) (fun _ _ _ h => h) (Or.inl ⟨by rfl, ?q1_h1⟩) (by assumption) ?q1_r1
          case q1_h1 => (intro w hSw; (try dsimp only at hSw); go_simp; try (with_reducible rfl))
          simp only [List.set_cons_zero, List.set_cons_succ]
          refine takeH 2 20 (v := ?q1_v2) rfl rfl (by kernel_rfl) (by kernel_rfl) (by kernel_rfl) (fun _ _ _ h => h) (Or.inl ⟨by rfl, ?q1_h2⟩) (by assumption) ?q1_r2
          case q1_h2 => (intro w hSw; (try dsimp only at hSw); go_simp; try (with_reducible rfl))
          simp only [List.set_cons_zero, List.set_cons_succ]
          refine takeH 3 21 (v := ?q1_v3) rfl rfl (by kernel_rfl) (by kernel_rfl) (by kernel_rfl) (fun _ _ _ h => h) (Or.inl ⟨by rfl, ?q1_h3⟩) (by assumption) ?q1_r3
          case q1_h3 => (intro w hSw; (try dsimp only at hSw); go_simp; try (with_reducible rfl))
          simp only [List.set_cons_zero, List.set_cons_succ]
          refine takeH 4 22 (v := ?q1_v4) rfl rfl (by kernel_rfl) (by kernel_rfl) (by kernel_rfl) (fun _ _ _ h => h) (Or.inl ⟨by rfl, ?q1_h4⟩) (by assumption) ?q1_r4
          case q1_h4 => (intro w hSw; (try dsimp only at hSw); go_simp; try (with_reducible rfl))
          simp only [List.set_cons_zero, List.set_cons_succ]
          refine wpAnyH_ready (rs := [5]) (by kernel_rfl) (by simp) ?_
          refine AllReadyH.cons rfl (fun K hK => ?_) AllReadyH.nil
          go_simp
          go_wp2_with (go_at_call 52; refine (refIsC_at xA xc xl _ _ HE.out.ix HU1.out).mono ?_; rintro e w5 ⟨rfl, hb5⟩; (replace HE := Lib.hid (HE.out.later hb5); clear hb5))
          refine hK.out _ _ ?_ (fun hHeld => ?_)
          · exact ⟨HE.out.S.i1, HE.out.S.c3, HE.out.S.c4, HE.out.S.s0, HE.out.S.s1, HE.out.x0, HE.out.y0, HE.out.y1, HE.out.y2, HE.out.y3, HE.out.y4⟩
          clear hK K
          refine takeH 6 24 (v := ?q1_v6) rfl rfl (by kernel_rfl) (by kernel_rfl) (by kernel_rfl) (fun _ _ _ h => h) (Or.inl ⟨by rfl, ?q1_h6⟩) (by assumption) ?q1_r6
          case q1_h6 => (intro w hSw; (try dsimp only at hSw); go_simp; try (with_reducible rfl))
          simp only [List.set_cons_zero, List.set_cons_succ]
          refine takeH 7 25 (v := ?q1_v7) rfl rfl (by kernel_rfl) (by kernel_rfl) (by kernel_rfl) (fun _ _ _ h => h) (Or.inl ⟨by rfl, ?q1_h7⟩) (by assumption) ?q1_r7
          case q1_h7 => (intro w hSw; (try dsimp only at hSw); go_simp; try (with_reducible rfl))
          simp only [List.set_cons_zero, List.set_cons_succ]
          refine takeH 8 26 (v := undef) rfl rfl (by kernel_rfl) (by kernel_rfl) (by kernel_rfl) (fun _ _ _ h => h) (Or.inr ⟨by rfl, rfl⟩) (by assumption) ?_
          simp only [List.set_cons_zero, List.set_cons_succ]
          refine takeH 9 27 (v := undef) rfl rfl (by kernel_rfl) (by kernel_rfl) (by kernel_rfl) (fun _ _ _ h => h) (Or.inr ⟨by rfl, rfl⟩) (by assumption) ?_
          simp only [List.set_cons_zero, List.set_cons_succ]
          refine takeH 10 28 (v := undef) rfl rfl (by kernel_rfl) (by kernel_rfl) (by kernel_rfl) (fun _ _ _ h => h) (Or.inr ⟨by rfl, rfl⟩) (by assumption) ?_
          simp only [List.set_cons_zero, List.set_cons_succ]
          refine takeH 11 29 (v := undef) rfl rfl (by kernel_rfl) (by kernel_rfl) (by kernel_rfl) (fun _ _ _ h => h) (Or.inr ⟨by rfl, rfl⟩) (by assumption) ?_
          simp only [List.set_cons_zero, List.set_cons_succ]
          refine takeH 12 30 (v := undef) rfl rfl (by kernel_rfl) (by kernel_rfl) (by kernel_rfl) (fun _ _ _ h => h) (Or.inr ⟨by rfl, rfl⟩) (by assumption) ?_
          simp only [List.set_cons_zero, List.set_cons_succ]
          refine takeH 13 31 (v := undef) rfl rfl (by kernel_rfl) (by kernel_rfl) (by kernel_rfl) (fun _ _ _ h => h) (Or.inr ⟨by rfl, rfl⟩) (by assumption) ?_
          simp only [List.set_cons_zero, List.set_cons_succ]
          refine takeH 14 32 (v := undef) rfl rfl (by kernel_rfl) (by kernel_rfl) (by kernel_rfl) (fun _ _ _ h => h) (Or.inr ⟨by rfl, rfl⟩) (by assumption) ?_
          simp only [List.set_cons_zero, List.set_cons_succ]
          refine takeH 15 33 (v := undef) rfl rfl (by kernel_rfl) (by kernel_rfl) (by kernel_rfl) (fun _ _ _ h => h) (Or.inr ⟨by rfl, rfl⟩) (by assumption) ?_
          simp only [List.set_cons_zero, List.set_cons_succ]
          refine takeH 16 34 (v := undef) rfl rfl (by kernel_rfl) (by kernel_rfl) (by kernel_rfl) (fun _ _ _ h => h) (Or.inr ⟨by rfl, rfl⟩) (by assumption) ?_
          simp only [List.set_cons_zero, List.set_cons_succ]
          refine takeH 17 35 (v := undef) rfl rfl (by kernel_rfl) (by kernel_rfl) (by kernel_rfl) (fun _ _ _ h => h) (Or.inr ⟨by rfl, rfl⟩) (by assumption) ?_
          simp only [List.set_cons_zero, List.set_cons_succ]
          refine takeH 18 36 (v := undef) rfl rfl (by kernel_rfl) (by kernel_rfl) (by kernel_rfl) (fun _ _ _ h => h) (Or.inr ⟨by rfl, rfl⟩) (by assumption) ?_
          simp only [List.set_cons_zero, List.set_cons_succ]
          refine takeH 19 37 (v := ?q1_v19) rfl rfl (by kernel_rfl) (by kernel_rfl) (by kernel_rfl) (fun _ _ _ h => h) (Or.inl ⟨by rfl, ?q1_h19⟩) (by assumption) ?q1_r19
          case q1_h19 => (intro w hSw; (try dsimp only at hSw); go_simp; try (with_reducible rfl))
          simp only [List.set_cons_zero, List.set_cons_succ]
          refine takeH 20 38 (v := ?q1_v20) rfl rfl (by kernel_rfl) (by kernel_rfl) (by kernel_rfl) (fun _ _ _ h => h) (Or.inl ⟨by rfl, ?q1_h20⟩) (by assumption) ?q1_r20
          case q1_h20 => (intro w hSw; (try dsimp only at hSw); go_simp; try (with_reducible rfl))
          simp only [List.set_cons_zero, List.set_cons_succ]
          refine takeH 21 39 (v := undef) rfl rfl (by kernel_rfl) (by kernel_rfl) (by kernel_rfl) (fun _ _ _ h => h) (Or.inr ⟨by rfl, rfl⟩) (by assumption) ?_
          simp only [List.set_cons_zero, List.set_cons_succ]
          refine takeH 22 40 (v := undef) rfl rfl (by kernel_rfl) (by kernel_rfl) (by kernel_rfl) (fun _ _ _ h => h) (Or.inr ⟨by rfl, rfl⟩) (by assumption) ?_
          simp only [List.set_cons_zero, List.set_cons_succ]
          refine takeH 23 41 (v := undef) rfl rfl (by kernel_rfl) (by kernel_rfl) (by kernel_rfl) (fun _ _ _ h => h) (Or.inr ⟨by rfl, rfl⟩) (by assumption) ?_
          simp only [List.set_cons_zero, List.set_cons_succ]
          refine takeH 24 42 (v := undef) rfl rfl (by kernel_rfl) (by kernel_rfl) (by kernel_rfl) (fun _ _ _ h => h) (Or.inr ⟨by rfl, rfl⟩) (by assumption) ?_
          simp only [List.set_cons_zero, List.set_cons_succ]
          refine takeH 25 43 (v := undef) rfl rfl (by kernel_rfl) (by kernel_rfl) (by kernel_rfl) (fun _ _ _ h => h) (Or.inr ⟨by rfl, rfl⟩) (by assumption) ?_
          simp only [List.set_cons_zero, List.set_cons_succ]
          refine takeH 26 44 (v := undef) rfl rfl (by kernel_rfl) (by kernel_rfl) (by kernel_rfl) (fun _ _ _ h => h) (Or.inr ⟨by rfl, rfl⟩) (by assumption) ?_
          simp only [List.set_cons_zero, List.set_cons_succ]
          refine takeH 27 45 (v := undef) rfl rfl (by kernel_rfl) (by kernel_rfl) (by kernel_rfl) (fun _ _ _ h => h) (Or.inr ⟨by rfl, rfl⟩) (by assumption) ?_
          simp only [List.set_cons_zero, List.set_cons_succ]
          refine takeH 28 46 (v := undef) rfl rfl (by kernel_rfl) (by kernel_rfl) (by kernel_rfl) (fun _ _ _ h => h) (Or.inr ⟨by rfl, rfl⟩) (by assumption) ?_
          simp only [List.set_cons_zero, List.set_cons_succ]
          refine takeH 29 47 (v := undef) rfl rfl (by kernel_rfl) (by kernel_rfl) (by kernel_rfl) (fun _ _ _ h => h) (Or.inr ⟨by rfl, rfl⟩) (by assumption) ?_
          simp only [List.set_cons_zero, List.set_cons_succ]
          refine takeH 30 48 (v := undef) rfl rfl (by kernel_rfl) (by kernel_rfl) (by kernel_rfl) (fun _ _ _ h => h) (Or.inr ⟨by rfl, rfl⟩) (by assumption) ?_
          simp only [List.set_cons_zero, List.set_cons_succ]
          refine takeH 31 49 (v := undef) rfl rfl (by kernel_rfl) (by kernel_rfl) (by kernel_rfl) (fun _ _ _ h => h) (Or.inr ⟨by rfl, rfl⟩) (by assumption) ?_
          simp only [List.set_cons_zero, List.set_cons_succ]
          refine takeH 32 50 (v := undef) rfl rfl (by kernel_rfl) (by kernel_rfl) (by kernel_rfl) (fun _ _ _ h => h) (Or.inr ⟨by rfl, rfl⟩) (by assumption) ?_
          simp only [List.set_cons_zero, List.set_cons_succ]
          refine takeH 33 51 (v := undef) rfl rfl (by kernel_rfl) (by kernel_rfl) (by kernel_rfl) (fun _ _ _ h => h) (Or.inr ⟨by rfl, rfl⟩) (by assumption) ?_
          simp only [List.set_cons_zero, List.set_cons_succ]
          refine takeH 34 52 (v := undef) rfl rfl (by kernel_rfl) (by kernel_rfl) (by kernel_rfl) (fun _ _ _ h => h) (Or.inr ⟨by rfl, rfl⟩) (by assumption) ?_
          simp only [List.set_cons_zero, List.set_cons_succ]
          refine takeH 35 53 (v := undef) rfl rfl (by kernel_rfl) (by kernel_rfl) (by kernel_rfl) (fun _ _ _ h => h) (Or.inr ⟨by rfl, rfl⟩) (by assumption) ?_
          simp only [List.set_cons_zero, List.set_cons_succ]
          refine takeH 36 54 (v := undef) rfl rfl (by kernel_rfl) (by kernel_rfl) (by kernel_rfl) (fun _ _ _ h => h) (Or.inr ⟨by rfl, rfl⟩) (by assumption) ?_
          simp only [List.set_cons_zero, List.set_cons_succ]
          refine takeH 37 55 (v := undef) rfl rfl (by kernel_rfl) (by kernel_rfl) (by kernel_rfl) (fun _ _ _ h => h) (Or.inr ⟨by rfl, rfl⟩) (by assumption) ?_
          simp only [List.set_cons_zero, List.set_cons_succ]
          refine takeH 38 56 (v := ?q1_v38) rfl rfl (by kernel_rfl) (by kernel_rfl) (by kernel_rfl) (fun _ _ _ h => h) (Or.inl ⟨by rfl, ?q1_h38⟩) (by assumption) ?q1_r38
          case q1_h38 => (intro w hSw; (try dsimp only at hSw); go_simp; try (with_reducible rfl))
          simp only [List.set_cons_zero, List.set_cons_succ]
          refine wpAnyH_done (by kernel_rfl) ?_ _
          refine NoPanic.normal ?_
          go_wp2_with fail
          go_ret
          exact ⟨ret_bool HF.out.symm, HE.out.S.bel⟩
        | true =>
          cases u2 with
          | false =>
            have HF : Hid (R = false) := by show R = false; rw [← HG.out]; rfl
            go_wp2_with fail
            refine wp_region_noPanic ?_
            refine wp_region_held_drew (S := (fun w' => w'.cell? ⟨w.heap.size, 1, none⟩ = some (.slice (some ⟨b, off, none⟩) 1 c) ∧ w'.cell? ⟨w.heap.size + 1, 3, none⟩ = some (.slice (some ⟨b1, off1, none⟩) cs.length cc) ∧ w'.cell? ⟨w.heap.size + 1, 4, none⟩ = some (.slice (some ⟨b2, off2, none⟩) vs.length vc) ∧ w'.cell? ⟨b, off, none⟩ = some (.int .i64 ak) ∧ w'.cell? ⟨b, off + 1, none⟩ = some (.slice aA al.length ac) ∧ w'.cell? ⟨b1, off1 + i, none⟩ = some (.slice xA xl.length xc) ∧ w'.cell? ⟨b2, off2 + i * 5, none⟩ = some (.int .u64 yn) ∧ w'.cell? ⟨b2, off2 + i * 5 + 1, none⟩ = some (.int .u64 ym) ∧ w'.cell? ⟨b2, off2 + i * 5 + 2, none⟩ = some (.slice ysA yss.length ysc) ∧ w'.cell? ⟨b2, off2 + i * 5 + 3, none⟩ = some (.slice ycA ycs.length ycc) ∧ w'.cell? ⟨b2, off2 + i * 5 + 4, none⟩ = some (.slice yvA yvs.length yvc))) (by kernel_rfl) ?_ (fun hHeld => ?_)
            · exact ⟨HE.out.S.i1, HE.out.S.c3, HE.out.S.c4, HE.out.S.s0, HE.out.S.s1, HE.out.x0, HE.out.y0, HE.out.y1, HE.out.y2, HE.out.y3, HE.out.y4⟩
            refine takeH 0 18 (v := ?q2_v0) rfl rfl (by kernel_rfl) (by kernel_rfl) (by kernel_rfl) (fun _ _ _ h => h) (Or.inl ⟨by rfl, ?q2_h0⟩) (by assumption) ?q2_r0
            case q2_h0 => (intro w hSw; (try dsimp only at hSw); go_simp; try (with_reducible rfl))
            simp only [List.set_cons_zero, List.set_cons_succ]
            refine takeH 1 19 (v := ?q2_v1) rfl rfl (by kernel_rfl) (by kernel_rfl) (by kernel_rfl) (fun _ _ _ h => h) (Or.inl ⟨by rfl, ?q2_h1⟩) (by assumption) ?q2_r1
            case q2_h1 => (intro w hSw; (try dsimp only at hSw); go_simp; try (with_reducible rfl))
            simp only [List.set_cons_zero, List.set_cons_succ]
            refine takeH 2 20 (v := ?q2_v2) rfl rfl (by kernel_rfl) (by kernel_rfl) (by kernel_rfl) (fun _ _ _ h => h) (Or.inl ⟨by rfl, ?q2_h2⟩) (by assumption) ?q2_r2
            case q2_h2 => (intro w hSw; (try dsimp only at hSw); go_simp; try (with_reducible rfl))
            simp only [List.set_cons_zero, List.set_cons_succ]
            refine takeH 3 21 (v := ?q2_v3) rfl rfl (by kernel_rfl) (by kernel_rfl) (by kernel_rfl) (fun _ _ _ h => h) (Or.inl ⟨by rfl, ?q2_h3⟩) (by assumption) ?q2_r3
            case q2_h3 => (intro w hSw; (try dsimp only at hSw); go_simp; try (with_reducible rfl))
            simp only [List.set_cons_zero, List.set_cons_succ]
            refine takeH 4 22 (v := ?q2_v4) rfl rfl (by kernel_rfl) (by kernel_rfl) (by kernel_rfl) (fun _ _ _ h => h) (Or.inl ⟨by rfl, ?q2_h4⟩) (by assumption) ?q2_r4
            case q2_h4 => (intro w hSw; (try dsimp only at hSw); go_simp; try (with_reducible rfl))
            simp only [List.set_cons_zero, List.set_cons_succ]
            refine wpAnyH_ready (rs := [5]) (by kernel_rfl) (by simp) ?_
            refine AllReadyH.cons rfl (fun K hK => ?_) AllReadyH.nil
            go_simp
            go_wp2_with (go_at_call 52; refine (refIsC_at xA xc xl _ _ HE.out.ix HU1.out).mono ?_; rintro e w5 ⟨rfl, hb5⟩; (replace HE := Lib.hid (HE.out.later hb5); clear hb5))
            refine hK.out _ _ ?_ (fun hHeld => ?_)
            · exact ⟨HE.out.S.i1, HE.out.S.c3, HE.out.S.c4, HE.out.S.s0, HE.out.S.s1, HE.out.x0, HE.out.y0, HE.out.y1, HE.out.y2, HE.out.y3, HE.out.y4⟩
            clear hK K
            refine takeH 6 24 (v := ?q2_v6) rfl rfl (by kernel_rfl) (by kernel_rfl) (by kernel_rfl) (fun _ _ _ h => h) (Or.inl ⟨by rfl, ?q2_h6⟩) (by assumption) ?q2_r6
            case q2_h6 => (intro w hSw; (try dsimp only at hSw); go_simp; try (with_reducible rfl))
            simp only [List.set_cons_zero, List.set_cons_succ]
            refine takeH 7 25 (v := ?q2_v7) rfl rfl (by kernel_rfl) (by kernel_rfl) (by kernel_rfl) (fun _ _ _ h => h) (Or.inl ⟨by rfl, ?q2_h7⟩) (by assumption) ?q2_r7
            case q2_h7 => (intro w hSw; (try dsimp only at hSw); go_simp; try (with_reducible rfl))
            simp only [List.set_cons_zero, List.set_cons_succ]
            refine takeH 8 26 (v := ?q2_v8) rfl rfl (by kernel_rfl) (by kernel_rfl) (by kernel_rfl) (fun _ _ _ h => h) (Or.inl ⟨by rfl, ?q2_h8⟩) (by assumption) ?q2_r8
            case q2_h8 => (intro w hSw; (try dsimp only at hSw); go_simp; try (with_reducible rfl))
            simp only [List.set_cons_zero, List.set_cons_succ]
            refine takeH 9 27 (v := ?q2_v9) rfl rfl (by kernel_rfl) (by kernel_rfl) (by kernel_rfl) (fun _ _ _ h => h) (Or.inl ⟨by rfl, ?q2_h9⟩) (by assumption) ?q2_r9
            case q2_h9 => (intro w hSw; (try dsimp only at hSw); go_simp; try (with_reducible rfl))
            simp only [List.set_cons_zero, List.set_cons_succ]
            refine takeH 10 28 (v := ?q2_v10) rfl rfl (by kernel_rfl) (by kernel_rfl) (by kernel_rfl) (fun _ _ _ h => h) (Or.inl ⟨by rfl, ?q2_h10⟩) (by assumption) ?q2_r10
            case q2_h10 => (intro w hSw; (try dsimp only at hSw); go_simp; try (with_reducible rfl))
            simp only [List.set_cons_zero, List.set_cons_succ]
            refine takeH 11 29 (v := ?q2_v11) rfl rfl (by kernel_rfl) (by kernel_rfl) (by kernel_rfl) (fun _ _ _ h => h) (Or.inl ⟨by rfl, ?q2_h11⟩) (by assumption) ?q2_r11
            case q2_h11 => (intro w hSw; (try dsimp only at hSw); go_simp; try (with_reducible rfl))
            simp only [List.set_cons_zero, List.set_cons_succ]
            refine takeH 12 30 (v := ?q2_v12) rfl rfl (by kernel_rfl) (by kernel_rfl) (by kernel_rfl) (fun _ _ _ h => h) (Or.inl ⟨by rfl, ?q2_h12⟩) (by assumption) ?q2_r12
            case q2_h12 => (intro w hSw; (try dsimp only at hSw); go_simp; try (with_reducible rfl))
            simp only [List.set_cons_zero, List.set_cons_succ]
            refine takeH 13 31 (v := ?q2_v13) rfl rfl (by kernel_rfl) (by kernel_rfl) (by kernel_rfl) (fun _ _ _ h => h) (Or.inl ⟨by rfl, ?q2_h13⟩) (by assumption) ?q2_r13
            case q2_h13 => (intro w hSw; (try dsimp only at hSw); go_simp; try (with_reducible rfl))
            simp only [List.set_cons_zero, List.set_cons_succ]
            refine takeH 14 32 (v := ?q2_v14) rfl rfl (by kernel_rfl) (by kernel_rfl) (by kernel_rfl) (fun _ _ _ h => h) (Or.inl ⟨by rfl, ?q2_h14⟩) (by assumption) ?q2_r14
            case q2_h14 => (intro w hSw; (try dsimp only at hSw); go_simp; try (with_reducible rfl))
            simp only [List.set_cons_zero, List.set_cons_succ]
            refine takeH 15 33 (v := ?q2_v15) rfl rfl (by kernel_rfl) (by kernel_rfl) (by kernel_rfl) (fun _ _ _ h => h) (Or.inl ⟨by rfl, ?q2_h15⟩) (by assumption) ?q2_r15
            case q2_h15 => (intro w hSw; (try dsimp only at hSw); go_simp; try (with_reducible rfl))
            simp only [List.set_cons_zero, List.set_cons_succ]
            refine takeH 16 34 (v := ?q2_v16) rfl rfl (by kernel_rfl) (by kernel_rfl) (by kernel_rfl) (fun _ _ _ h => h) (Or.inl ⟨by rfl, ?q2_h16⟩) (by assumption) ?q2_r16
            case q2_h16 => (intro w hSw; (try dsimp only at hSw); go_simp; try (with_reducible rfl))
            simp only [List.set_cons_zero, List.set_cons_succ]
            refine wpAnyH_ready (rs := [17]) (by kernel_rfl) (by simp) ?_
            refine AllReadyH.cons rfl (fun K hK => ?_) AllReadyH.nil
            go_simp
            go_wp2_with (go_at_call 32; refine (IH.out (.mk yn ym ysA ysc yss ycA ycc ycs yvA yvc yvs) _ HE.out.ia HE.out.iy).mono ?_; rintro e w6 ⟨rfl, hb5⟩; (rw [HU2.out]; replace HE := Lib.hid (HE.out.later hb5); clear hb5))
            refine hK.out _ _ ?_ (fun hHeld => ?_)
            · exact ⟨HE.out.S.i1, HE.out.S.c3, HE.out.S.c4, HE.out.S.s0, HE.out.S.s1, HE.out.x0, HE.out.y0, HE.out.y1, HE.out.y2, HE.out.y3, HE.out.y4⟩
            clear hK K
            refine takeH 18 36 (v := ?q2_v18) rfl rfl (by kernel_rfl) (by kernel_rfl) (by kernel_rfl) (fun _ _ _ h => h) (Or.inl ⟨by rfl, ?q2_h18⟩) (by assumption) ?q2_r18
            case q2_h18 => (intro w hSw; (try dsimp only at hSw); go_simp; try (with_reducible rfl))
            simp only [List.set_cons_zero, List.set_cons_succ]
            refine takeH 19 37 (v := ?q2_v19) rfl rfl (by kernel_rfl) (by kernel_rfl) (by kernel_rfl) (fun _ _ _ h => h) (Or.inl ⟨by rfl, ?q2_h19⟩) (by assumption) ?q2_r19
            case q2_h19 => (intro w hSw; (try dsimp only at hSw); go_simp; try (with_reducible rfl))
            simp only [List.set_cons_zero, List.set_cons_succ]
            refine takeH 20 38 (v := ?q2_v20) rfl rfl (by kernel_rfl) (by kernel_rfl) (by kernel_rfl) (fun _ _ _ h => h) (Or.inl ⟨by rfl, ?q2_h20⟩) (by assumption) ?q2_r20
            case q2_h20 => (intro w hSw; (try dsimp only at hSw); go_simp; try (with_reducible rfl))
            simp only [List.set_cons_zero, List.set_cons_succ]
            refine takeH 21 39 (v := undef) rfl rfl (by kernel_rfl) (by kernel_rfl) (by kernel_rfl) (fun _ _ _ h => h) (Or.inr ⟨by rfl, rfl⟩) (by assumption) ?_
            simp only [List.set_cons_zero, List.set_cons_succ]
            refine takeH 22 40 (v := undef) rfl rfl (by kernel_rfl) (by kernel_rfl) (by kernel_rfl) (fun _ _ _ h => h) (Or.inr ⟨by rfl, rfl⟩) (by assumption) ?_
            simp only [List.set_cons_zero, List.set_cons_succ]
            refine takeH 23 41 (v := undef) rfl rfl (by kernel_rfl) (by kernel_rfl) (by kernel_rfl) (fun _ _ _ h => h) (Or.inr ⟨by rfl, rfl⟩) (by assumption) ?_
            simp only [List.set_cons_zero, List.set_cons_succ]
            refine takeH 24 42 (v := undef) rfl rfl (by kernel_rfl) (by kernel_rfl) (by kernel_rfl) (fun _ _ _ h => h) (Or.inr ⟨by rfl, rfl⟩) (by assumption) ?_
            simp only [List.set_cons_zero, List.set_cons_succ]
            refine takeH 25 43 (v := undef) rfl rfl (by kernel_rfl) (by kernel_rfl) (by kernel_rfl) (fun _ _ _ h => h) (Or.inr ⟨by rfl, rfl⟩) (by assumption) ?_
            simp only [List.set_cons_zero, List.set_cons_succ]
            refine takeH 26 44 (v := undef) rfl rfl (by kernel_rfl) (by kernel_rfl) (by kernel_rfl) (fun _ _ _ h => h) (Or.inr ⟨by rfl, rfl⟩) (by assumption) ?_
            simp only [List.set_cons_zero, List.set_cons_succ]
            refine takeH 27 45 (v := undef) rfl rfl (by kernel_rfl) (by kernel_rfl) (by kernel_rfl) (fun _ _ _ h => h) (Or.inr ⟨by rfl, rfl⟩) (by assumption) ?_
            simp only [List.set_cons_zero, List.set_cons_succ]
            refine takeH 28 46 (v := undef) rfl rfl (by kernel_rfl) (by kernel_rfl) (by kernel_rfl) (fun _ _ _ h => h) (Or.inr ⟨by rfl, rfl⟩) (by assumption) ?_
            simp only [List.set_cons_zero, List.set_cons_succ]
            refine takeH 29 47 (v := undef) rfl rfl (by kernel_rfl) (by kernel_rfl) (by kernel_rfl) (fun _ _ _ h => h) (Or.inr ⟨by rfl, rfl⟩) (by assumption) ?_
            simp only [List.set_cons_zero, List.set_cons_succ]
            refine takeH 30 48 (v := undef) rfl rfl (by kernel_rfl) (by kernel_rfl) (by kernel_rfl) (fun _ _ _ h => h) (Or.inr ⟨by rfl, rfl⟩) (by assumption) ?_
            simp only [List.set_cons_zero, List.set_cons_succ]
            refine takeH 31 49 (v := undef) rfl rfl (by kernel_rfl) (by kernel_rfl) (by kernel_rfl) (fun _ _ _ h => h) (Or.inr ⟨by rfl, rfl⟩) (by assumption) ?_
            simp only [List.set_cons_zero, List.set_cons_succ]
            refine takeH 32 50 (v := undef) rfl rfl (by kernel_rfl) (by kernel_rfl) (by kernel_rfl) (fun _ _ _ h => h) (Or.inr ⟨by rfl, rfl⟩) (by assumption) ?_
            simp only [List.set_cons_zero, List.set_cons_succ]
            refine takeH 33 51 (v := undef) rfl rfl (by kernel_rfl) (by kernel_rfl) (by kernel_rfl) (fun _ _ _ h => h) (Or.inr ⟨by rfl, rfl⟩) (by assumption) ?_
            simp only [List.set_cons_zero, List.set_cons_succ]
            refine takeH 34 52 (v := undef) rfl rfl (by kernel_rfl) (by kernel_rfl) (by kernel_rfl) (fun _ _ _ h => h) (Or.inr ⟨by rfl, rfl⟩) (by assumption) ?_
            simp only [List.set_cons_zero, List.set_cons_succ]
            refine takeH 35 53 (v := undef) rfl rfl (by kernel_rfl) (by kernel_rfl) (by kernel_rfl) (fun _ _ _ h => h) (Or.inr ⟨by rfl, rfl⟩) (by assumption) ?_
            simp only [List.set_cons_zero, List.set_cons_succ]
            refine takeH 36 54 (v := undef) rfl rfl (by kernel_rfl) (by kernel_rfl) (by kernel_rfl) (fun _ _ _ h => h) (Or.inr ⟨by rfl, rfl⟩) (by assumption) ?_
            simp only [List.set_cons_zero, List.set_cons_succ]
            refine takeH 37 55 (v := undef) rfl rfl (by kernel_rfl) (by kernel_rfl) (by kernel_rfl) (fun _ _ _ h => h) (Or.inr ⟨by rfl, rfl⟩) (by assumption) ?_
            simp only [List.set_cons_zero, List.set_cons_succ]
            refine takeH 38 56 (v := ?q2_v38) rfl rfl (by kernel_rfl) (by kernel_rfl) (by kernel_rfl) (fun _ _ _ h => h) (Or.inl ⟨by rfl, ?q2_h38⟩) (by assumption) ?q2_r38
            case q2_h38 => (intro w hSw; (try dsimp only at hSw); go_simp; try (with_reducible rfl))
            simp only [List.set_cons_zero, List.set_cons_succ]
            refine wpAnyH_done (by kernel_rfl) ?_ _
            refine NoPanic.normal ?_
            go_wp2_with fail
            go_ret
            exact ⟨ret_bool HF.out.symm, HE.out.S.bel⟩
          | true =>
            obtain ⟨u3, hu3⟩ : ∃ u, lastAhead ((cs.map Ck.l).take i) xl = u := ⟨_, rfl⟩
            rw [hu3] at HG
            by_cases hi0 : i = 0
            · have e3 : u3 = true := by rw [← hu3, hi0]; exact last_zero _ _
              subst e3
              have d0 : ¬ 0 < i := by omega
              clear hu3 hi0
              go_wp2_with fail
              refine wp_region_noPanic ?_
              refine wp_region_held_drew (S := (fun w' => w'.cell? ⟨w.heap.size, 1, none⟩ = some (.slice (some ⟨b, off, none⟩) 1 c) ∧ w'.cell? ⟨w.heap.size + 1, 3, none⟩ = some (.slice (some ⟨b1, off1, none⟩) cs.length cc) ∧ w'.cell? ⟨w.heap.size + 1, 4, none⟩ = some (.slice (some ⟨b2, off2, none⟩) vs.length vc) ∧ w'.cell? ⟨b, off, none⟩ = some (.int .i64 ak) ∧ w'.cell? ⟨b, off + 1, none⟩ = some (.slice aA al.length ac) ∧ w'.cell? ⟨b1, off1 + i, none⟩ = some (.slice xA xl.length xc) ∧ w'.cell? ⟨b2, off2 + i * 5, none⟩ = some (.int .u64 yn) ∧ w'.cell? ⟨b2, off2 + i * 5 + 1, none⟩ = some (.int .u64 ym) ∧ w'.cell? ⟨b2, off2 + i * 5 + 2, none⟩ = some (.slice ysA yss.length ysc) ∧ w'.cell? ⟨b2, off2 + i * 5 + 3, none⟩ = some (.slice ycA ycs.length ycc) ∧ w'.cell? ⟨b2, off2 + i * 5 + 4, none⟩ = some (.slice yvA yvs.length yvc))) (by kernel_rfl) ?_ (fun hHeld => ?_)
              · exact ⟨HE.out.S.i1, HE.out.S.c3, HE.out.S.c4, HE.out.S.s0, HE.out.S.s1, HE.out.x0, HE.out.y0, HE.out.y1, HE.out.y2, HE.out.y3, HE.out.y4⟩
              refine takeH 0 18 (v := ?q3_v0) rfl rfl (by kernel_rfl) (by kernel_rfl) (by kernel_rfl) (fun _ _ _ h => h) (Or.inl ⟨by rfl, ?q3_h0⟩) (by assumption) ?q3_r0
              case q3_h0 => (intro w hSw; (try dsimp only at hSw); go_simp; try (with_reducible rfl))
              simp only [List.set_cons_zero, List.set_cons_succ]
              refine takeH 1 19 (v := ?q3_v1) rfl rfl (by kernel_rfl) (by kernel_rfl) (by kernel_rfl) (fun _ _ _ h => h) (Or.inl ⟨by rfl, ?q3_h1⟩) (by assumption) ?q3_r1
              case q3_h1 => (intro w hSw; (try dsimp only at hSw); go_simp; try (with_reducible rfl))
              simp only [List.set_cons_zero, List.set_cons_succ]
              refine takeH 2 20 (v := ?q3_v2) rfl rfl (by kernel_rfl) (by kernel_rfl) (by kernel_rfl) (fun _ _ _ h => h) (Or.inl ⟨by rfl, ?q3_h2⟩) (by assumption) ?q3_r2
              case q3_h2 => (intro w hSw; (try dsimp only at hSw); go_simp; try (with_reducible rfl))
              simp only [List.set_cons_zero, List.set_cons_succ]
              refine takeH 3 21 (v := ?q3_v3) rfl rfl (by kernel_rfl) (by kernel_rfl) (by kernel_rfl) (fun _ _ _ h => h) (Or.inl ⟨by rfl, ?q3_h3⟩) (by assumption) ?q3_r3
              case q3_h3 => (intro w hSw; (try dsimp only at hSw); go_simp; try (with_reducible rfl))
              simp only [List.set_cons_zero, List.set_cons_succ]
              refine takeH 4 22 (v := ?q3_v4) rfl rfl (by kernel_rfl) (by kernel_rfl) (by kernel_rfl) (fun _ _ _ h => h) (Or.inl ⟨by rfl, ?q3_h4⟩) (by assumption) ?q3_r4
              case q3_h4 => (intro w hSw; (try dsimp only at hSw); go_simp; try (with_reducible rfl))
              simp only [List.set_cons_zero, List.set_cons_succ]
              refine wpAnyH_ready (rs := [5]) (by kernel_rfl) (by simp) ?_
              refine AllReadyH.cons rfl (fun K hK => ?_) AllReadyH.nil
              go_simp
              go_wp2_with (go_at_call 52; refine (refIsC_at xA xc xl _ _ HE.out.ix HU1.out).mono ?_; rintro e w5 ⟨rfl, hb5⟩; (replace HE := Lib.hid (HE.out.later hb5); clear hb5))
              refine hK.out _ _ ?_ (fun hHeld => ?_)
              · exact ⟨HE.out.S.i1, HE.out.S.c3, HE.out.S.c4, HE.out.S.s0, HE.out.S.s1, HE.out.x0, HE.out.y0, HE.out.y1, HE.out.y2, HE.out.y3, HE.out.y4⟩
              clear hK K
              refine takeH 6 24 (v := ?q3_v6) rfl rfl (by kernel_rfl) (by kernel_rfl) (by kernel_rfl) (fun _ _ _ h => h) (Or.inl ⟨by rfl, ?q3_h6⟩) (by assumption) ?q3_r6
              case q3_h6 => (intro w hSw; (try dsimp only at hSw); go_simp; try (with_reducible rfl))
              simp only [List.set_cons_zero, List.set_cons_succ]
              refine takeH 7 25 (v := ?q3_v7) rfl rfl (by kernel_rfl) (by kernel_rfl) (by kernel_rfl) (fun _ _ _ h => h) (Or.inl ⟨by rfl, ?q3_h7⟩) (by assumption) ?q3_r7
              case q3_h7 => (intro w hSw; (try dsimp only at hSw); go_simp; try (with_reducible rfl))
              simp only [List.set_cons_zero, List.set_cons_succ]
              refine takeH 8 26 (v := ?q3_v8) rfl rfl (by kernel_rfl) (by kernel_rfl) (by kernel_rfl) (fun _ _ _ h => h) (Or.inl ⟨by rfl, ?q3_h8⟩) (by assumption) ?q3_r8
              case q3_h8 => (intro w hSw; (try dsimp only at hSw); go_simp; try (with_reducible rfl))
              simp only [List.set_cons_zero, List.set_cons_succ]
              refine takeH 9 27 (v := ?q3_v9) rfl rfl (by kernel_rfl) (by kernel_rfl) (by kernel_rfl) (fun _ _ _ h => h) (Or.inl ⟨by rfl, ?q3_h9⟩) (by assumption) ?q3_r9
              case q3_h9 => (intro w hSw; (try dsimp only at hSw); go_simp; try (with_reducible rfl))
              simp only [List.set_cons_zero, List.set_cons_succ]
              refine takeH 10 28 (v := ?q3_v10) rfl rfl (by kernel_rfl) (by kernel_rfl) (by kernel_rfl) (fun _ _ _ h => h) (Or.inl ⟨by rfl, ?q3_h10⟩) (by assumption) ?q3_r10
              case q3_h10 => (intro w hSw; (try dsimp only at hSw); go_simp; try (with_reducible rfl))
              simp only [List.set_cons_zero, List.set_cons_succ]
              refine takeH 11 29 (v := ?q3_v11) rfl rfl (by kernel_rfl) (by kernel_rfl) (by kernel_rfl) (fun _ _ _ h => h) (Or.inl ⟨by rfl, ?q3_h11⟩) (by assumption) ?q3_r11
              case q3_h11 => (intro w hSw; (try dsimp only at hSw); go_simp; try (with_reducible rfl))
              simp only [List.set_cons_zero, List.set_cons_succ]
              refine takeH 12 30 (v := ?q3_v12) rfl rfl (by kernel_rfl) (by kernel_rfl) (by kernel_rfl) (fun _ _ _ h => h) (Or.inl ⟨by rfl, ?q3_h12⟩) (by assumption) ?q3_r12
              case q3_h12 => (intro w hSw; (try dsimp only at hSw); go_simp; try (with_reducible rfl))
              simp only [List.set_cons_zero, List.set_cons_succ]
              refine takeH 13 31 (v := ?q3_v13) rfl rfl (by kernel_rfl) (by kernel_rfl) (by kernel_rfl) (fun _ _ _ h => h) (Or.inl ⟨by rfl, ?q3_h13⟩) (by assumption) ?q3_r13
              case q3_h13 => (intro w hSw; (try dsimp only at hSw); go_simp; try (with_reducible rfl))
              simp only [List.set_cons_zero, List.set_cons_succ]
              refine takeH 14 32 (v := ?q3_v14) rfl rfl (by kernel_rfl) (by kernel_rfl) (by kernel_rfl) (fun _ _ _ h => h) (Or.inl ⟨by rfl, ?q3_h14⟩) (by assumption) ?q3_r14
              case q3_h14 => (intro w hSw; (try dsimp only at hSw); go_simp; try (with_reducible rfl))
              simp only [List.set_cons_zero, List.set_cons_succ]
              refine takeH 15 33 (v := ?q3_v15) rfl rfl (by kernel_rfl) (by kernel_rfl) (by kernel_rfl) (fun _ _ _ h => h) (Or.inl ⟨by rfl, ?q3_h15⟩) (by assumption) ?q3_r15
              case q3_h15 => (intro w hSw; (try dsimp only at hSw); go_simp; try (with_reducible rfl))
              simp only [List.set_cons_zero, List.set_cons_succ]
              refine takeH 16 34 (v := ?q3_v16) rfl rfl (by kernel_rfl) (by kernel_rfl) (by kernel_rfl) (fun _ _ _ h => h) (Or.inl ⟨by rfl, ?q3_h16⟩) (by assumption) ?q3_r16
              case q3_h16 => (intro w hSw; (try dsimp only at hSw); go_simp; try (with_reducible rfl))
              simp only [List.set_cons_zero, List.set_cons_succ]
              refine wpAnyH_ready (rs := [17]) (by kernel_rfl) (by simp) ?_
              refine AllReadyH.cons rfl (fun K hK => ?_) AllReadyH.nil
              go_simp
              go_wp2_with (go_at_call 32; refine (IH.out (.mk yn ym ysA ysc yss ycA ycc ycs yvA yvc yvs) _ HE.out.ia HE.out.iy).mono ?_; rintro e w6 ⟨rfl, hb5⟩; (rw [HU2.out]; replace HE := Lib.hid (HE.out.later hb5); clear hb5))
              refine hK.out _ _ ?_ (fun hHeld => ?_)
              · exact ⟨HE.out.S.i1, HE.out.S.c3, HE.out.S.c4, HE.out.S.s0, HE.out.S.s1, HE.out.x0, HE.out.y0, HE.out.y1, HE.out.y2, HE.out.y3, HE.out.y4⟩
              clear hK K
              refine takeH 18 36 (v := ?q3_v18) rfl rfl (by kernel_rfl) (by kernel_rfl) (by kernel_rfl) (fun _ _ _ h => h) (Or.inl ⟨by rfl, ?q3_h18⟩) (by assumption) ?q3_r18
              case q3_h18 => (intro w hSw; (try dsimp only at hSw); go_simp; try (with_reducible rfl))
              simp only [List.set_cons_zero, List.set_cons_succ]
              refine takeH 19 37 (v := ?q3_v19) rfl rfl (by kernel_rfl) (by kernel_rfl) (by kernel_rfl) (fun _ _ _ h => h) (Or.inl ⟨by rfl, ?q3_h19⟩) (by assumption) ?q3_r19
              case q3_h19 => (intro w hSw; (try dsimp only at hSw); go_simp; try (with_reducible rfl))
              simp only [List.set_cons_zero, List.set_cons_succ]
              refine takeH 20 38 (v := ?q3_v20) rfl rfl (by kernel_rfl) (by kernel_rfl) (by kernel_rfl) (fun _ _ _ h => h) (Or.inl ⟨by rfl, ?q3_h20⟩) (by assumption) ?q3_r20
              case q3_h20 => (intro w hSw; (try dsimp only at hSw); go_simp; try (with_reducible rfl))
              simp only [List.set_cons_zero, List.set_cons_succ]
              refine takeH 21 39 (v := ?q3_v21) rfl rfl (by kernel_rfl) (by kernel_rfl) (by kernel_rfl) (fun _ _ _ h => h) (Or.inl ⟨by rfl, ?q3_h21⟩) (by assumption) ?q3_r21
              case q3_h21 => (intro w hSw; (try dsimp only at hSw); go_simp; try (with_reducible rfl))
              simp only [List.set_cons_zero, List.set_cons_succ]
              refine takeH 22 40 (v := ?q3_v22) rfl rfl (by kernel_rfl) (by kernel_rfl) (by kernel_rfl) (fun _ _ _ h => h) (Or.inl ⟨by rfl, ?q3_h22⟩) (by assumption) ?q3_r22
              case q3_h22 => (intro w hSw; (try dsimp only at hSw); go_simp; try (with_reducible rfl))
              simp only [List.set_cons_zero, List.set_cons_succ]
              refine takeH 23 41 (v := ?q3_v23) rfl rfl (by kernel_rfl) (by kernel_rfl) (by kernel_rfl) (fun _ _ _ h => h) (Or.inl ⟨by rfl, ?q3_h23⟩) (by assumption) ?q3_r23
              case q3_h23 => (intro w hSw; (try dsimp only at hSw); go_simp; try (with_reducible rfl))
              simp only [List.set_cons_zero, List.set_cons_succ]
              refine takeH 24 42 (v := undef) rfl rfl (by kernel_rfl) (by kernel_rfl) (by kernel_rfl) (fun _ _ _ h => h) (Or.inr ⟨by rfl, rfl⟩) (by assumption) ?_
              simp only [List.set_cons_zero, List.set_cons_succ]
              refine takeH 25 43 (v := undef) rfl rfl (by kernel_rfl) (by kernel_rfl) (by kernel_rfl) (fun _ _ _ h => h) (Or.inr ⟨by rfl, rfl⟩) (by assumption) ?_
              simp only [List.set_cons_zero, List.set_cons_succ]
              refine takeH 26 44 (v := undef) rfl rfl (by kernel_rfl) (by kernel_rfl) (by kernel_rfl) (fun _ _ _ h => h) (Or.inr ⟨by rfl, rfl⟩) (by assumption) ?_
              simp only [List.set_cons_zero, List.set_cons_succ]
              refine takeH 27 45 (v := undef) rfl rfl (by kernel_rfl) (by kernel_rfl) (by kernel_rfl) (fun _ _ _ h => h) (Or.inr ⟨by rfl, rfl⟩) (by assumption) ?_
              simp only [List.set_cons_zero, List.set_cons_succ]
              refine takeH 28 46 (v := undef) rfl rfl (by kernel_rfl) (by kernel_rfl) (by kernel_rfl) (fun _ _ _ h => h) (Or.inr ⟨by rfl, rfl⟩) (by assumption) ?_
              simp only [List.set_cons_zero, List.set_cons_succ]
              refine takeH 29 47 (v := undef) rfl rfl (by kernel_rfl) (by kernel_rfl) (by kernel_rfl) (fun _ _ _ h => h) (Or.inr ⟨by rfl, rfl⟩) (by assumption) ?_
              simp only [List.set_cons_zero, List.set_cons_succ]
              refine takeH 30 48 (v := undef) rfl rfl (by kernel_rfl) (by kernel_rfl) (by kernel_rfl) (fun _ _ _ h => h) (Or.inr ⟨by rfl, rfl⟩) (by assumption) ?_
              simp only [List.set_cons_zero, List.set_cons_succ]
              refine takeH 31 49 (v := undef) rfl rfl (by kernel_rfl) (by kernel_rfl) (by kernel_rfl) (fun _ _ _ h => h) (Or.inr ⟨by rfl, rfl⟩) (by assumption) ?_
              simp only [List.set_cons_zero, List.set_cons_succ]
              refine takeH 32 50 (v := undef) rfl rfl (by kernel_rfl) (by kernel_rfl) (by kernel_rfl) (fun _ _ _ h => h) (Or.inr ⟨by rfl, rfl⟩) (by assumption) ?_
              simp only [List.set_cons_zero, List.set_cons_succ]
              refine takeH 33 51 (v := undef) rfl rfl (by kernel_rfl) (by kernel_rfl) (by kernel_rfl) (fun _ _ _ h => h) (Or.inr ⟨by rfl, rfl⟩) (by assumption) ?_
              simp only [List.set_cons_zero, List.set_cons_succ]
              refine takeH 34 52 (v := undef) rfl rfl (by kernel_rfl) (by kernel_rfl) (by kernel_rfl) (fun _ _ _ h => h) (Or.inr ⟨by rfl, rfl⟩) (by assumption) ?_
              simp only [List.set_cons_zero, List.set_cons_succ]
              refine takeH 35 53 (v := undef) rfl rfl (by kernel_rfl) (by kernel_rfl) (by kernel_rfl) (fun _ _ _ h => h) (Or.inr ⟨by rfl, rfl⟩) (by assumption) ?_
              simp only [List.set_cons_zero, List.set_cons_succ]
              refine takeH 36 54 (v := undef) rfl rfl (by kernel_rfl) (by kernel_rfl) (by kernel_rfl) (fun _ _ _ h => h) (Or.inr ⟨by rfl, rfl⟩) (by assumption) ?_
              simp only [List.set_cons_zero, List.set_cons_succ]
              refine takeH 37 55 (v := ?q3_v37) rfl rfl (by kernel_rfl) (by kernel_rfl) (by kernel_rfl) (fun _ _ _ h => h) (Or.inl ⟨by rfl, ?q3_h37⟩) (by assumption) ?q3_r37
              case q3_h37 => (intro w hSw; (try dsimp only at hSw); go_simp; try (with_reducible rfl))
              simp only [List.set_cons_zero, List.set_cons_succ]
              refine takeH 38 56 (v := ?q3_v38) rfl rfl (by kernel_rfl) (by kernel_rfl) (by kernel_rfl) (fun _ _ _ h => h) (Or.inl ⟨by rfl, ?q3_h38⟩) (by assumption) ?q3_r38
              case q3_h38 => (intro w hSw; (try dsimp only at hSw); go_simp; try (with_reducible rfl))
              simp only [List.set_cons_zero, List.set_cons_succ]
              refine wpAnyH_done (by kernel_rfl) ?_ _
              refine NoPanic.normal ?_
              go_wp2_with fail
              go_loopw [6] (fun kv wr => ∃ (k2 : Nat), k2 ≤ i ∧ kv = .int .i64 k2 ∧ Hid (((cs.map Ck.l).take k2).all (fun d => decide (cmpC d xl = 2)) = true) ∧ Hid (SibE w (some ⟨b, off, none⟩) c b off ak aA ac al (some ⟨b1, off1, none⟩) cc cs.length (some ⟨b2, off2, none⟩) vc vs.length b1 (off1 + i) b2 (off2 + i * 5) ⟨xA, xc, xl⟩ (.mk yn ym ysA ysc yss ycA ycc ycs yvA yvc yvs) wr)) (fun kv _ => i - (intOf kv).toNat)
              case atStart => exact ⟨0, Nat.zero_le _, rfl, by simp [Hid], HE⟩
              case round =>
                clear HE
                rename_i wq
                obtain ⟨k2, hk2, rfl, hall2, HE⟩ := hrel
                by_cases hlt2 : k2 < i
                · exact absurd hlt2 (by omega)
                · have hke : k2 = i := by omega
                  subst hke
                  have HN : Hid (sibGo p ((cs.map Ck.l).take (k2 + 1)) ((cs.map Ck.l).drop (k2 + 1)) ((vs.map Vl.er).drop (k2 + 1)) = R) := by
                    have := HG.out
                    rw [hall2.out] at this
                    exact this
                  go_wp2_with fail
                  go_roundw
                  case rel => exact ⟨k2 + 1, by omega, by go_num, HN, HE.out.S⟩
                  case measure => simp [intOf]; omega
            · obtain ⟨j, hj⟩ : ∃ j, i = j + 1 := ⟨i - 1, by omega⟩
              obtain ⟨z, hz⟩ : ∃ z, cs[j]? = some z := ⟨_, List.getElem?_eq_getElem (by omega)⟩
              have HU3 : Hid (aheadC z.l xl = u3) := by
                show aheadC z.l xl = u3
                rw [← hu3, hj]
                exact (last_succ (map_at (f := Ck.l) hz)).symm
              obtain ⟨b3, off3, he3, hb3, hcz⟩ := clock_at (HP.out.cl.below HE.out.S.bel) hz
              obtain ⟨rfl, rfl⟩ : b1 = b3 ∧ off1 = off3 := by cases he3; exact ⟨rfl, rfl⟩
              have HZ : Hid (SibZ b1 (off1 + j) z wr.drew) := ⟨hcz, HE.out.l1, (HP.out.ck z (List.mem_of_getElem? hz)).later HE.out.S.bel⟩
              obtain ⟨zA, zc, zl⟩ := z
              dsimp only at HU3
              have d0 : 0 < i := by omega
              have s1 : IntKind.i64.wrap ((i : Int) - 1) = (i : Int) - 1 := IntWalk.i64_in _ (by omega)
              have s2 : 0 ≤ (i : Int) - 1 := by omega
              have s3 : ((i : Int) - 1).toNat = j := by omega
              have s4 : (i : Int) - 1 < (cs.length : Int) := by omega
              have s5 : 1 ≤ (i : Int) := by omega
              clear hu3 hi0 hz he3 hcz hj
              cases u3 with
              | false =>
                have HF : Hid (R = false) := by show R = false; rw [← HG.out]; rfl
                go_wp2_with fail
                refine wp_region_noPanic ?_
                refine wp_region_held_drew (S := (fun w' => w'.cell? ⟨w.heap.size, 1, none⟩ = some (.slice (some ⟨b, off, none⟩) 1 c) ∧ w'.cell? ⟨w.heap.size + 1, 3, none⟩ = some (.slice (some ⟨b1, off1, none⟩) cs.length cc) ∧ w'.cell? ⟨w.heap.size + 1, 4, none⟩ = some (.slice (some ⟨b2, off2, none⟩) vs.length vc) ∧ w'.cell? ⟨b, off, none⟩ = some (.int .i64 ak) ∧ w'.cell? ⟨b, off + 1, none⟩ = some (.slice aA al.length ac) ∧ w'.cell? ⟨b1, off1 + i, none⟩ = some (.slice xA xl.length xc) ∧ w'.cell? ⟨b2, off2 + i * 5, none⟩ = some (.int .u64 yn) ∧ w'.cell? ⟨b2, off2 + i * 5 + 1, none⟩ = some (.int .u64 ym) ∧ w'.cell? ⟨b2, off2 + i * 5 + 2, none⟩ = some (.slice ysA yss.length ysc) ∧ w'.cell? ⟨b2, off2 + i * 5 + 3, none⟩ = some (.slice ycA ycs.length ycc) ∧ w'.cell? ⟨b2, off2 + i * 5 + 4, none⟩ = some (.slice yvA yvs.length yvc) ∧ w'.cell? ⟨b1, off1 + j, none⟩ = some (.slice zA zl.length zc))) (by kernel_rfl) ?_ (fun hHeld => ?_)
                · exact ⟨HE.out.S.i1, HE.out.S.c3, HE.out.S.c4, HE.out.S.s0, HE.out.S.s1, HE.out.x0, HE.out.y0, HE.out.y1, HE.out.y2, HE.out.y3, HE.out.y4, HZ.out.x0⟩
                refine takeH 0 18 (v := ?q4_v0) rfl rfl (by kernel_rfl) (by kernel_rfl) (by kernel_rfl) (fun _ _ _ h => h) (Or.inl ⟨by rfl, ?q4_h0⟩) (by assumption) ?q4_r0
                case q4_h0 => (intro w hSw; (try dsimp only at hSw); go_simp; try (with_reducible rfl))
                simp only [List.set_cons_zero, List.set_cons_succ]
                refine takeH 1 19 (v := ?q4_v1) rfl rfl (by kernel_rfl) (by kernel_rfl) (by kernel_rfl) (fun _ _ _ h => h) (Or.inl ⟨by rfl, ?q4_h1⟩) (by assumption) ?q4_r1
                case q4_h1 => (intro w hSw; (try dsimp only at hSw); go_simp; try (with_reducible rfl))
                simp only [List.set_cons_zero, List.set_cons_succ]
                refine takeH 2 20 (v := ?q4_v2) rfl rfl (by kernel_rfl) (by kernel_rfl) (by kernel_rfl) (fun _ _ _ h => h) (Or.inl ⟨by rfl, ?q4_h2⟩) (by assumption) ?q4_r2
                case q4_h2 => (intro w hSw; (try dsimp only at hSw); go_simp; try (with_reducible rfl))
                simp only [List.set_cons_zero, List.set_cons_succ]
                refine takeH 3 21 (v := ?q4_v3) rfl rfl (by kernel_rfl) (by kernel_rfl) (by kernel_rfl) (fun _ _ _ h => h) (Or.inl ⟨by rfl, ?q4_h3⟩) (by assumption) ?q4_r3
                case q4_h3 => (intro w hSw; (try dsimp only at hSw); go_simp; try (with_reducible rfl))
                simp only [List.set_cons_zero, List.set_cons_succ]
                refine takeH 4 22 (v := ?q4_v4) rfl rfl (by kernel_rfl) (by kernel_rfl) (by kernel_rfl) (fun _ _ _ h => h) (Or.inl ⟨by rfl, ?q4_h4⟩) (by assumption) ?q4_r4
                case q4_h4 => (intro w hSw; (try dsimp only at hSw); go_simp; try (with_reducible rfl))
                simp only [List.set_cons_zero, List.set_cons_succ]
                refine wpAnyH_ready (rs := [5]) (by kernel_rfl) (by simp) ?_
                refine AllReadyH.cons rfl (fun K hK => ?_) AllReadyH.nil
                go_simp
                go_wp2_with (go_at_call 52; refine (refIsC_at xA xc xl _ _ HE.out.ix HU1.out).mono ?_; rintro e w5 ⟨rfl, hb5⟩; (replace HE := Lib.hid (HE.out.later hb5); replace HZ := Lib.hid (HZ.out.later hb5); clear hb5))
                refine hK.out _ _ ?_ (fun hHeld => ?_)
                · exact ⟨HE.out.S.i1, HE.out.S.c3, HE.out.S.c4, HE.out.S.s0, HE.out.S.s1, HE.out.x0, HE.out.y0, HE.out.y1, HE.out.y2, HE.out.y3, HE.out.y4, HZ.out.x0⟩
                clear hK K
                refine takeH 6 24 (v := ?q4_v6) rfl rfl (by kernel_rfl) (by kernel_rfl) (by kernel_rfl) (fun _ _ _ h => h) (Or.inl ⟨by rfl, ?q4_h6⟩) (by assumption) ?q4_r6
                case q4_h6 => (intro w hSw; (try dsimp only at hSw); go_simp; try (with_reducible rfl))
                simp only [List.set_cons_zero, List.set_cons_succ]
                refine takeH 7 25 (v := ?q4_v7) rfl rfl (by kernel_rfl) (by kernel_rfl) (by kernel_rfl) (fun _ _ _ h => h) (Or.inl ⟨by rfl, ?q4_h7⟩) (by assumption) ?q4_r7
                case q4_h7 => (intro w hSw; (try dsimp only at hSw); go_simp; try (with_reducible rfl))
                simp only [List.set_cons_zero, List.set_cons_succ]
                refine takeH 8 26 (v := ?q4_v8) rfl rfl (by kernel_rfl) (by kernel_rfl) (by kernel_rfl) (fun _ _ _ h => h) (Or.inl ⟨by rfl, ?q4_h8⟩) (by assumption) ?q4_r8
                case q4_h8 => (intro w hSw; (try dsimp only at hSw); go_simp; try (with_reducible rfl))
                simp only [List.set_cons_zero, List.set_cons_succ]
                refine takeH 9 27 (v := ?q4_v9) rfl rfl (by kernel_rfl) (by kernel_rfl) (by kernel_rfl) (fun _ _ _ h => h) (Or.inl ⟨by rfl, ?q4_h9⟩) (by assumption) ?q4_r9
                case q4_h9 => (intro w hSw; (try dsimp only at hSw); go_simp; try (with_reducible rfl))
                simp only [List.set_cons_zero, List.set_cons_succ]
                refine takeH 10 28 (v := ?q4_v10) rfl rfl (by kernel_rfl) (by kernel_rfl) (by kernel_rfl) (fun _ _ _ h => h) (Or.inl ⟨by rfl, ?q4_h10⟩) (by assumption) ?q4_r10
                case q4_h10 => (intro w hSw; (try dsimp only at hSw); go_simp; try (with_reducible rfl))
                simp only [List.set_cons_zero, List.set_cons_succ]
                refine takeH 11 29 (v := ?q4_v11) rfl rfl (by kernel_rfl) (by kernel_rfl) (by kernel_rfl) (fun _ _ _ h => h) (Or.inl ⟨by rfl, ?q4_h11⟩) (by assumption) ?q4_r11
                case q4_h11 => (intro w hSw; (try dsimp only at hSw); go_simp; try (with_reducible rfl))
                simp only [List.set_cons_zero, List.set_cons_succ]
                refine takeH 12 30 (v := ?q4_v12) rfl rfl (by kernel_rfl) (by kernel_rfl) (by kernel_rfl) (fun _ _ _ h => h) (Or.inl ⟨by rfl, ?q4_h12⟩) (by assumption) ?q4_r12
                case q4_h12 => (intro w hSw; (try dsimp only at hSw); go_simp; try (with_reducible rfl))
                simp only [List.set_cons_zero, List.set_cons_succ]
                refine takeH 13 31 (v := ?q4_v13) rfl rfl (by kernel_rfl) (by kernel_rfl) (by kernel_rfl) (fun _ _ _ h => h) (Or.inl ⟨by rfl, ?q4_h13⟩) (by assumption) ?q4_r13
                case q4_h13 => (intro w hSw; (try dsimp only at hSw); go_simp; try (with_reducible rfl))
                simp only [List.set_cons_zero, List.set_cons_succ]
                refine takeH 14 32 (v := ?q4_v14) rfl rfl (by kernel_rfl) (by kernel_rfl) (by kernel_rfl) (fun _ _ _ h => h) (Or.inl ⟨by rfl, ?q4_h14⟩) (by assumption) ?q4_r14
                case q4_h14 => (intro w hSw; (try dsimp only at hSw); go_simp; try (with_reducible rfl))
                simp only [List.set_cons_zero, List.set_cons_succ]
                refine takeH 15 33 (v := ?q4_v15) rfl rfl (by kernel_rfl) (by kernel_rfl) (by kernel_rfl) (fun _ _ _ h => h) (Or.inl ⟨by rfl, ?q4_h15⟩) (by assumption) ?q4_r15
                case q4_h15 => (intro w hSw; (try dsimp only at hSw); go_simp; try (with_reducible rfl))
                simp only [List.set_cons_zero, List.set_cons_succ]
                refine takeH 16 34 (v := ?q4_v16) rfl rfl (by kernel_rfl) (by kernel_rfl) (by kernel_rfl) (fun _ _ _ h => h) (Or.inl ⟨by rfl, ?q4_h16⟩) (by assumption) ?q4_r16
                case q4_h16 => (intro w hSw; (try dsimp only at hSw); go_simp; try (with_reducible rfl))
                simp only [List.set_cons_zero, List.set_cons_succ]
                refine wpAnyH_ready (rs := [17]) (by kernel_rfl) (by simp) ?_
                refine AllReadyH.cons rfl (fun K hK => ?_) AllReadyH.nil
                go_simp
                go_wp2_with (go_at_call 32; refine (IH.out (.mk yn ym ysA ysc yss ycA ycc ycs yvA yvc yvs) _ HE.out.ia HE.out.iy).mono ?_; rintro e w6 ⟨rfl, hb5⟩; (rw [HU2.out]; replace HE := Lib.hid (HE.out.later hb5); replace HZ := Lib.hid (HZ.out.later hb5); clear hb5))
                refine hK.out _ _ ?_ (fun hHeld => ?_)
                · exact ⟨HE.out.S.i1, HE.out.S.c3, HE.out.S.c4, HE.out.S.s0, HE.out.S.s1, HE.out.x0, HE.out.y0, HE.out.y1, HE.out.y2, HE.out.y3, HE.out.y4, HZ.out.x0⟩
                clear hK K
                refine takeH 18 36 (v := ?q4_v18) rfl rfl (by kernel_rfl) (by kernel_rfl) (by kernel_rfl) (fun _ _ _ h => h) (Or.inl ⟨by rfl, ?q4_h18⟩) (by assumption) ?q4_r18
                case q4_h18 => (intro w hSw; (try dsimp only at hSw); go_simp; try (with_reducible rfl))
                simp only [List.set_cons_zero, List.set_cons_succ]
                refine takeH 19 37 (v := ?q4_v19) rfl rfl (by kernel_rfl) (by kernel_rfl) (by kernel_rfl) (fun _ _ _ h => h) (Or.inl ⟨by rfl, ?q4_h19⟩) (by assumption) ?q4_r19
                case q4_h19 => (intro w hSw; (try dsimp only at hSw); go_simp; try (with_reducible rfl))
                simp only [List.set_cons_zero, List.set_cons_succ]
                refine takeH 20 38 (v := ?q4_v20) rfl rfl (by kernel_rfl) (by kernel_rfl) (by kernel_rfl) (fun _ _ _ h => h) (Or.inl ⟨by rfl, ?q4_h20⟩) (by assumption) ?q4_r20
                case q4_h20 => (intro w hSw; (try dsimp only at hSw); go_simp; try (with_reducible rfl))
                simp only [List.set_cons_zero, List.set_cons_succ]
                refine takeH 21 39 (v := ?q4_v21) rfl rfl (by kernel_rfl) (by kernel_rfl) (by kernel_rfl) (fun _ _ _ h => h) (Or.inl ⟨by rfl, ?q4_h21⟩) (by assumption) ?q4_r21
                case q4_h21 => (intro w hSw; (try dsimp only at hSw); go_simp; try (with_reducible rfl))
                simp only [List.set_cons_zero, List.set_cons_succ]
                refine takeH 22 40 (v := ?q4_v22) rfl rfl (by kernel_rfl) (by kernel_rfl) (by kernel_rfl) (fun _ _ _ h => h) (Or.inl ⟨by rfl, ?q4_h22⟩) (by assumption) ?q4_r22
                case q4_h22 => (intro w hSw; (try dsimp only at hSw); go_simp; try (with_reducible rfl))
                simp only [List.set_cons_zero, List.set_cons_succ]
                refine takeH 23 41 (v := ?q4_v23) rfl rfl (by kernel_rfl) (by kernel_rfl) (by kernel_rfl) (fun _ _ _ h => h) (Or.inl ⟨by rfl, ?q4_h23⟩) (by assumption) ?q4_r23
                case q4_h23 => (intro w hSw; (try dsimp only at hSw); go_simp; try (with_reducible rfl))
                simp only [List.set_cons_zero, List.set_cons_succ]
                refine takeH 24 42 (v := ?q4_v24) rfl rfl (by kernel_rfl) (by kernel_rfl) (by kernel_rfl) (fun _ _ _ h => h) (Or.inl ⟨by rfl, ?q4_h24⟩) (by assumption) ?q4_r24
                case q4_h24 => (intro w hSw; (try dsimp only at hSw); go_simp; try (with_reducible rfl))
                simp only [List.set_cons_zero, List.set_cons_succ]
                refine takeH 25 43 (v := ?q4_v25) rfl rfl (by kernel_rfl) (by kernel_rfl) (by kernel_rfl) (fun _ _ _ h => h) (Or.inl ⟨by rfl, ?q4_h25⟩) (by assumption) ?q4_r25
                case q4_h25 => (intro w hSw; (try dsimp only at hSw); go_simp; try (with_reducible rfl))
                simp only [List.set_cons_zero, List.set_cons_succ]
                refine takeH 26 44 (v := ?q4_v26) rfl rfl (by kernel_rfl) (by kernel_rfl) (by kernel_rfl) (fun _ _ _ h => h) (Or.inl ⟨by rfl, ?q4_h26⟩) (by assumption) ?q4_r26
                case q4_h26 => (intro w hSw; (try dsimp only at hSw); go_simp; try (with_reducible rfl))
                simp only [List.set_cons_zero, List.set_cons_succ]
                refine takeH 27 45 (v := ?q4_v27) rfl rfl (by kernel_rfl) (by kernel_rfl) (by kernel_rfl) (fun _ _ _ h => h) (Or.inl ⟨by rfl, ?q4_h27⟩) (by assumption) ?q4_r27
                case q4_h27 => (intro w hSw; (try dsimp only at hSw); go_simp; try (with_reducible rfl))
                simp only [List.set_cons_zero, List.set_cons_succ]
                refine takeH 28 46 (v := ?q4_v28) rfl rfl (by kernel_rfl) (by kernel_rfl) (by kernel_rfl) (fun _ _ _ h => h) (Or.inl ⟨by rfl, ?q4_h28⟩) (by assumption) ?q4_r28
                case q4_h28 => (intro w hSw; (try dsimp only at hSw); go_simp; try (with_reducible rfl))
                simp only [List.set_cons_zero, List.set_cons_succ]
                refine takeH 29 47 (v := ?q4_v29) rfl rfl (by kernel_rfl) (by kernel_rfl) (by kernel_rfl) (fun _ _ _ h => h) (Or.inl ⟨by rfl, ?q4_h29⟩) (by assumption) ?q4_r29
                case q4_h29 => (intro w hSw; (try dsimp only at hSw); go_simp; try (with_reducible rfl))
                simp only [List.set_cons_zero, List.set_cons_succ]
                refine takeH 30 48 (v := ?q4_v30) rfl rfl (by kernel_rfl) (by kernel_rfl) (by kernel_rfl) (fun _ _ _ h => h) (Or.inl ⟨by rfl, ?q4_h30⟩) (by assumption) ?q4_r30
                case q4_h30 => (intro w hSw; (try dsimp only at hSw); go_simp; try (with_reducible rfl))
                simp only [List.set_cons_zero, List.set_cons_succ]
                refine takeH 31 49 (v := ?q4_v31) rfl rfl (by kernel_rfl) (by kernel_rfl) (by kernel_rfl) (fun _ _ _ h => h) (Or.inl ⟨by rfl, ?q4_h31⟩) (by assumption) ?q4_r31
                case q4_h31 => (intro w hSw; (try dsimp only at hSw); go_simp; try (with_reducible rfl))
                simp only [List.set_cons_zero, List.set_cons_succ]
                refine takeH 32 50 (v := ?q4_v32) rfl rfl (by kernel_rfl) (by kernel_rfl) (by kernel_rfl) (fun _ _ _ h => h) (Or.inl ⟨by rfl, ?q4_h32⟩) (by assumption) ?q4_r32
                case q4_h32 => (intro w hSw; (try dsimp only at hSw); go_simp; try (with_reducible rfl))
                simp only [List.set_cons_zero, List.set_cons_succ]
                refine takeH 33 51 (v := ?q4_v33) rfl rfl (by kernel_rfl) (by kernel_rfl) (by kernel_rfl) (fun _ _ _ h => h) (Or.inl ⟨by rfl, ?q4_h33⟩) (by assumption) ?q4_r33
                case q4_h33 => (intro w hSw; (try dsimp only at hSw); go_simp; try (with_reducible rfl))
                simp only [List.set_cons_zero, List.set_cons_succ]
                refine takeH 34 52 (v := ?q4_v34) rfl rfl (by kernel_rfl) (by kernel_rfl) (by kernel_rfl) (fun _ _ _ h => h) (Or.inl ⟨by rfl, ?q4_h34⟩) (by assumption) ?q4_r34
                case q4_h34 => (intro w hSw; (try dsimp only at hSw); go_simp; try (with_reducible rfl))
                simp only [List.set_cons_zero, List.set_cons_succ]
                refine wpAnyH_ready (rs := [35]) (by kernel_rfl) (by simp) ?_
                refine AllReadyH.cons rfl (fun K hK => ?_) AllReadyH.nil
                go_simp
                go_wp2_with (go_at_call 82; refine (refAhead_at zA xA zc xc zl xl _ _ HZ.out.ix HE.out.ix HU3.out).mono ?_; rintro e w7 ⟨rfl, hb5⟩; (replace HE := Lib.hid (HE.out.later hb5); replace HZ := Lib.hid (HZ.out.later hb5); clear hb5))
                refine hK.out _ _ ?_ (fun hHeld => ?_)
                · exact ⟨HE.out.S.i1, HE.out.S.c3, HE.out.S.c4, HE.out.S.s0, HE.out.S.s1, HE.out.x0, HE.out.y0, HE.out.y1, HE.out.y2, HE.out.y3, HE.out.y4, HZ.out.x0⟩
                clear hK K
                refine takeH 36 54 (v := ?q4_v36) rfl rfl (by kernel_rfl) (by kernel_rfl) (by kernel_rfl) (fun _ _ _ h => h) (Or.inl ⟨by rfl, ?q4_h36⟩) (by assumption) ?q4_r36
                case q4_h36 => (intro w hSw; (try dsimp only at hSw); go_simp; try (with_reducible rfl))
                simp only [List.set_cons_zero, List.set_cons_succ]
                refine takeH 37 55 (v := ?q4_v37) rfl rfl (by kernel_rfl) (by kernel_rfl) (by kernel_rfl) (fun _ _ _ h => h) (Or.inl ⟨by rfl, ?q4_h37⟩) (by assumption) ?q4_r37
                case q4_h37 => (intro w hSw; (try dsimp only at hSw); go_simp; try (with_reducible rfl))
                simp only [List.set_cons_zero, List.set_cons_succ]
                refine takeH 38 56 (v := ?q4_v38) rfl rfl (by kernel_rfl) (by kernel_rfl) (by kernel_rfl) (fun _ _ _ h => h) (Or.inl ⟨by rfl, ?q4_h38⟩) (by assumption) ?q4_r38
                case q4_h38 => (intro w hSw; (try dsimp only at hSw); go_simp; try (with_reducible rfl))
                simp only [List.set_cons_zero, List.set_cons_succ]
                refine wpAnyH_done (by kernel_rfl) ?_ _
                refine NoPanic.normal ?_
                go_wp2_with fail
                go_ret
                exact ⟨ret_bool HF.out.symm, HE.out.S.bel⟩
              | true =>
                go_wp2_with fail
                refine wp_region_noPanic ?_
                refine wp_region_held_drew (S := (fun w' => w'.cell? ⟨w.heap.size, 1, none⟩ = some (.slice (some ⟨b, off, none⟩) 1 c) ∧ w'.cell? ⟨w.heap.size + 1, 3, none⟩ = some (.slice (some ⟨b1, off1, none⟩) cs.length cc) ∧ w'.cell? ⟨w.heap.size + 1, 4, none⟩ = some (.slice (some ⟨b2, off2, none⟩) vs.length vc) ∧ w'.cell? ⟨b, off, none⟩ = some (.int .i64 ak) ∧ w'.cell? ⟨b, off + 1, none⟩ = some (.slice aA al.length ac) ∧ w'.cell? ⟨b1, off1 + i, none⟩ = some (.slice xA xl.length xc) ∧ w'.cell? ⟨b2, off2 + i * 5, none⟩ = some (.int .u64 yn) ∧ w'.cell? ⟨b2, off2 + i * 5 + 1, none⟩ = some (.int .u64 ym) ∧ w'.cell? ⟨b2, off2 + i * 5 + 2, none⟩ = some (.slice ysA yss.length ysc) ∧ w'.cell? ⟨b2, off2 + i * 5 + 3, none⟩ = some (.slice ycA ycs.length ycc) ∧ w'.cell? ⟨b2, off2 + i * 5 + 4, none⟩ = some (.slice yvA yvs.length yvc) ∧ w'.cell? ⟨b1, off1 + j, none⟩ = some (.slice zA zl.length zc))) (by kernel_rfl) ?_ (fun hHeld => ?_)
                · exact ⟨HE.out.S.i1, HE.out.S.c3, HE.out.S.c4, HE.out.S.s0, HE.out.S.s1, HE.out.x0, HE.out.y0, HE.out.y1, HE.out.y2, HE.out.y3, HE.out.y4, HZ.out.x0⟩
                refine takeH 0 18 (v := ?q5_v0) rfl rfl (by kernel_rfl) (by kernel_rfl) (by kernel_rfl) (fun _ _ _ h => h) (Or.inl ⟨by rfl, ?q5_h0⟩) (by assumption) ?q5_r0
                case q5_h0 => (intro w hSw; (try dsimp only at hSw); go_simp; try (with_reducible rfl))
                simp only [List.set_cons_zero, List.set_cons_succ]
                refine takeH 1 19 (v := ?q5_v1) rfl rfl (by kernel_rfl) (by kernel_rfl) (by kernel_rfl) (fun _ _ _ h => h) (Or.inl ⟨by rfl, ?q5_h1⟩) (by assumption) ?q5_r1
                case q5_h1 => (intro w hSw; (try dsimp only at hSw); go_simp; try (with_reducible rfl))
                simp only [List.set_cons_zero, List.set_cons_succ]
                refine takeH 2 20 (v := ?q5_v2) rfl rfl (by kernel_rfl) (by kernel_rfl) (by kernel_rfl) (fun _ _ _ h => h) (Or.inl ⟨by rfl, ?q5_h2⟩) (by assumption) ?q5_r2
                case q5_h2 => (intro w hSw; (try dsimp only at hSw); go_simp; try (with_reducible rfl))
                simp only [List.set_cons_zero, List.set_cons_succ]
                refine takeH 3 21 (v := ?q5_v3) rfl rfl (by kernel_rfl) (by kernel_rfl) (by kernel_rfl) (fun _ _ _ h => h) (Or.inl ⟨by rfl, ?q5_h3⟩) (by assumption) ?q5_r3
                case q5_h3 => (intro w hSw; (try dsimp only at hSw); go_simp; try (with_reducible rfl))
                simp only [List.set_cons_zero, List.set_cons_succ]
                refine takeH 4 22 (v := ?q5_v4) rfl rfl (by kernel_rfl) (by kernel_rfl) (by kernel_rfl) (fun _ _ _ h => h) (Or.inl ⟨by rfl, ?q5_h4⟩) (by assumption) ?q5_r4
                case q5_h4 => (intro w hSw; (try dsimp only at hSw); go_simp; try (with_reducible rfl))
                simp only [List.set_cons_zero, List.set_cons_succ]
                refine wpAnyH_ready (rs := [5]) (by kernel_rfl) (by simp) ?_
                refine AllReadyH.cons rfl (fun K hK => ?_) AllReadyH.nil
                go_simp
                go_wp2_with (go_at_call 52; refine (refIsC_at xA xc xl _ _ HE.out.ix HU1.out).mono ?_; rintro e w5 ⟨rfl, hb5⟩; (replace HE := Lib.hid (HE.out.later hb5); replace HZ := Lib.hid (HZ.out.later hb5); clear hb5))
                refine hK.out _ _ ?_ (fun hHeld => ?_)
                · exact ⟨HE.out.S.i1, HE.out.S.c3, HE.out.S.c4, HE.out.S.s0, HE.out.S.s1, HE.out.x0, HE.out.y0, HE.out.y1, HE.out.y2, HE.out.y3, HE.out.y4, HZ.out.x0⟩
                clear hK K
                refine takeH 6 24 (v := ?q5_v6) rfl rfl (by kernel_rfl) (by kernel_rfl) (by kernel_rfl) (fun _ _ _ h => h) (Or.inl ⟨by rfl, ?q5_h6⟩) (by assumption) ?q5_r6
                case q5_h6 => (intro w hSw; (try dsimp only at hSw); go_simp; try (with_reducible rfl))
                simp only [List.set_cons_zero, List.set_cons_succ]
                refine takeH 7 25 (v := ?q5_v7) rfl rfl (by kernel_rfl) (by kernel_rfl) (by kernel_rfl) (fun _ _ _ h => h) (Or.inl ⟨by rfl, ?q5_h7⟩) (by assumption) ?q5_r7
                case q5_h7 => (intro w hSw; (try dsimp only at hSw); go_simp; try (with_reducible rfl))
                simp only [List.set_cons_zero, List.set_cons_succ]
                refine takeH 8 26 (v := ?q5_v8) rfl rfl (by kernel_rfl) (by kernel_rfl) (by kernel_rfl) (fun _ _ _ h => h) (Or.inl ⟨by rfl, ?q5_h8⟩) (by assumption) ?q5_r8
                case q5_h8 => (intro w hSw; (try dsimp only at hSw); go_simp; try (with_reducible rfl))
                simp only [List.set_cons_zero, List.set_cons_succ]
                refine takeH 9 27 (v := ?q5_v9) rfl rfl (by kernel_rfl) (by kernel_rfl) (by kernel_rfl) (fun _ _ _ h => h) (Or.inl ⟨by rfl, ?q5_h9⟩) (by assumption) ?q5_r9
                case q5_h9 => (intro w hSw; (try dsimp only at hSw); go_simp; try (with_reducible rfl))
                simp only [List.set_cons_zero, List.set_cons_succ]
                refine takeH 10 28 (v := ?q5_v10) rfl rfl (by kernel_rfl) (by kernel_rfl) (by kernel_rfl) (fun _ _ _ h => h) (Or.inl ⟨by rfl, ?q5_h10⟩) (by assumption) ?q5_r10
                case q5_h10 => (intro w hSw; (try dsimp only at hSw); go_simp; try (with_reducible rfl))
                simp only [List.set_cons_zero, List.set_cons_succ]
                refine takeH 11 29 (v := ?q5_v11) rfl rfl (by kernel_rfl) (by kernel_rfl) (by kernel_rfl) (fun _ _ _ h => h) (Or.inl ⟨by rfl, ?q5_h11⟩) (by assumption) ?q5_r11
                case q5_h11 => (intro w hSw; (try dsimp only at hSw); go_simp; try (with_reducible rfl))
                simp only [List.set_cons_zero, List.set_cons_succ]
                refine takeH 12 30 (v := ?q5_v12) rfl rfl (by kernel_rfl) (by kernel_rfl) (by kernel_rfl) (fun _ _ _ h => h) (Or.inl ⟨by rfl, ?q5_h12⟩) (by assumption) ?q5_r12
                case q5_h12 => (intro w hSw; (try dsimp only at hSw); go_simp; try (with_reducible rfl))
                simp only [List.set_cons_zero, List.set_cons_succ]
                refine takeH 13 31 (v := ?q5_v13) rfl rfl (by kernel_rfl) (by kernel_rfl) (by kernel_rfl) (fun _ _ _ h => h) (Or.inl ⟨by rfl, ?q5_h13⟩) (by assumption) ?q5_r13
                case q5_h13 => (intro w hSw; (try dsimp only at hSw); go_simp; try (with_reducible rfl))
                simp only [List.set_cons_zero, List.set_cons_succ]
                refine takeH 14 32 (v := ?q5_v14) rfl rfl (by kernel_rfl) (by kernel_rfl) (by kernel_rfl) (fun _ _ _ h => h) (Or.inl ⟨by rfl, ?q5_h14⟩) (by assumption) ?q5_r14
                case q5_h14 => (intro w hSw; (try dsimp only at hSw); go_simp; try (with_reducible rfl))
                simp only [List.set_cons_zero, List.set_cons_succ]
                refine takeH 15 33 (v := ?q5_v15) rfl rfl (by kernel_rfl) (by kernel_rfl) (by kernel_rfl) (fun _ _ _ h => h) (Or.inl ⟨by rfl, ?q5_h15⟩) (by assumption) ?q5_r15
                case q5_h15 => (intro w hSw; (try dsimp only at hSw); go_simp; try (with_reducible rfl))
                simp only [List.set_cons_zero, List.set_cons_succ]
                refine takeH 16 34 (v := ?q5_v16) rfl rfl (by kernel_rfl) (by kernel_rfl) (by kernel_rfl) (fun _ _ _ h => h) (Or.inl ⟨by rfl, ?q5_h16⟩) (by assumption) ?q5_r16
                case q5_h16 => (intro w hSw; (try dsimp only at hSw); go_simp; try (with_reducible rfl))
                simp only [List.set_cons_zero, List.set_cons_succ]
                refine wpAnyH_ready (rs := [17]) (by kernel_rfl) (by simp) ?_
                refine AllReadyH.cons rfl (fun K hK => ?_) AllReadyH.nil
                go_simp
                go_wp2_with (go_at_call 32; refine (IH.out (.mk yn ym ysA ysc yss ycA ycc ycs yvA yvc yvs) _ HE.out.ia HE.out.iy).mono ?_; rintro e w6 ⟨rfl, hb5⟩; (rw [HU2.out]; replace HE := Lib.hid (HE.out.later hb5); replace HZ := Lib.hid (HZ.out.later hb5); clear hb5))
                refine hK.out _ _ ?_ (fun hHeld => ?_)
                · exact ⟨HE.out.S.i1, HE.out.S.c3, HE.out.S.c4, HE.out.S.s0, HE.out.S.s1, HE.out.x0, HE.out.y0, HE.out.y1, HE.out.y2, HE.out.y3, HE.out.y4, HZ.out.x0⟩
                clear hK K
                refine takeH 18 36 (v := ?q5_v18) rfl rfl (by kernel_rfl) (by kernel_rfl) (by kernel_rfl) (fun _ _ _ h => h) (Or.inl ⟨by rfl, ?q5_h18⟩) (by assumption) ?q5_r18
                case q5_h18 => (intro w hSw; (try dsimp only at hSw); go_simp; try (with_reducible rfl))
                simp only [List.set_cons_zero, List.set_cons_succ]
                refine takeH 19 37 (v := ?q5_v19) rfl rfl (by kernel_rfl) (by kernel_rfl) (by kernel_rfl) (fun _ _ _ h => h) (Or.inl ⟨by rfl, ?q5_h19⟩) (by assumption) ?q5_r19
                case q5_h19 => (intro w hSw; (try dsimp only at hSw); go_simp; try (with_reducible rfl))
                simp only [List.set_cons_zero, List.set_cons_succ]
                refine takeH 20 38 (v := ?q5_v20) rfl rfl (by kernel_rfl) (by kernel_rfl) (by kernel_rfl) (fun _ _ _ h => h) (Or.inl ⟨by rfl, ?q5_h20⟩) (by assumption) ?q5_r20
                case q5_h20 => (intro w hSw; (try dsimp only at hSw); go_simp; try (with_reducible rfl))
                simp only [List.set_cons_zero, List.set_cons_succ]
                refine takeH 21 39 (v := ?q5_v21) rfl rfl (by kernel_rfl) (by kernel_rfl) (by kernel_rfl) (fun _ _ _ h => h) (Or.inl ⟨by rfl, ?q5_h21⟩) (by assumption) ?q5_r21
                case q5_h21 => (intro w hSw; (try dsimp only at hSw); go_simp; try (with_reducible rfl))
                simp only [List.set_cons_zero, List.set_cons_succ]
                refine takeH 22 40 (v := ?q5_v22) rfl rfl (by kernel_rfl) (by kernel_rfl) (by kernel_rfl) (fun _ _ _ h => h) (Or.inl ⟨by rfl, ?q5_h22⟩) (by assumption) ?q5_r22
                case q5_h22 => (intro w hSw; (try dsimp only at hSw); go_simp; try (with_reducible rfl))
                simp only [List.set_cons_zero, List.set_cons_succ]
                refine takeH 23 41 (v := ?q5_v23) rfl rfl (by kernel_rfl) (by kernel_rfl) (by kernel_rfl) (fun _ _ _ h => h) (Or.inl ⟨by rfl, ?q5_h23⟩) (by assumption) ?q5_r23
                case q5_h23 => (intro w hSw; (try dsimp only at hSw); go_simp; try (with_reducible rfl))
                simp only [List.set_cons_zero, List.set_cons_succ]
                refine takeH 24 42 (v := ?q5_v24) rfl rfl (by kernel_rfl) (by kernel_rfl) (by kernel_rfl) (fun _ _ _ h => h) (Or.inl ⟨by rfl, ?q5_h24⟩) (by assumption) ?q5_r24
                case q5_h24 => (intro w hSw; (try dsimp only at hSw); go_simp; try (with_reducible rfl))
                simp only [List.set_cons_zero, List.set_cons_succ]
                refine takeH 25 43 (v := ?q5_v25) rfl rfl (by kernel_rfl) (by kernel_rfl) (by kernel_rfl) (fun _ _ _ h => h) (Or.inl ⟨by rfl, ?q5_h25⟩) (by assumption) ?q5_r25
                case q5_h25 => (intro w hSw; (try dsimp only at hSw); go_simp; try (with_reducible rfl))
                simp only [List.set_cons_zero, List.set_cons_succ]
                refine takeH 26 44 (v := ?q5_v26) rfl rfl (by kernel_rfl) (by kernel_rfl) (by kernel_rfl) (fun _ _ _ h => h) (Or.inl ⟨by rfl, ?q5_h26⟩) (by assumption) ?q5_r26
                case q5_h26 => (intro w hSw; (try dsimp only at hSw); go_simp; try (with_reducible rfl))
                simp only [List.set_cons_zero, List.set_cons_succ]
                refine takeH 27 45 (v := ?q5_v27) rfl rfl (by kernel_rfl) (by kernel_rfl) (by kernel_rfl) (fun _ _ _ h => h) (Or.inl ⟨by rfl, ?q5_h27⟩) (by assumption) ?q5_r27
                case q5_h27 => (intro w hSw; (try dsimp only at hSw); go_simp; try (with_reducible rfl))
                simp only [List.set_cons_zero, List.set_cons_succ]
                refine takeH 28 46 (v := ?q5_v28) rfl rfl (by kernel_rfl) (by kernel_rfl) (by kernel_rfl) (fun _ _ _ h => h) (Or.inl ⟨by rfl, ?q5_h28⟩) (by assumption) ?q5_r28
                case q5_h28 => (intro w hSw; (try dsimp only at hSw); go_simp; try (with_reducible rfl))
                simp only [List.set_cons_zero, List.set_cons_succ]
                refine takeH 29 47 (v := ?q5_v29) rfl rfl (by kernel_rfl) (by kernel_rfl) (by kernel_rfl) (fun _ _ _ h => h) (Or.inl ⟨by rfl, ?q5_h29⟩) (by assumption) ?q5_r29
                case q5_h29 => (intro w hSw; (try dsimp only at hSw); go_simp; try (with_reducible rfl))
                simp only [List.set_cons_zero, List.set_cons_succ]
                refine takeH 30 48 (v := ?q5_v30) rfl rfl (by kernel_rfl) (by kernel_rfl) (by kernel_rfl) (fun _ _ _ h => h) (Or.inl ⟨by rfl, ?q5_h30⟩) (by assumption) ?q5_r30
                case q5_h30 => (intro w hSw; (try dsimp only at hSw); go_simp; try (with_reducible rfl))
                simp only [List.set_cons_zero, List.set_cons_succ]
                refine takeH 31 49 (v := ?q5_v31) rfl rfl (by kernel_rfl) (by kernel_rfl) (by kernel_rfl) (fun _ _ _ h => h) (Or.inl ⟨by rfl, ?q5_h31⟩) (by assumption) ?q5_r31
                case q5_h31 => (intro w hSw; (try dsimp only at hSw); go_simp; try (with_reducible rfl))
                simp only [List.set_cons_zero, List.set_cons_succ]
                refine takeH 32 50 (v := ?q5_v32) rfl rfl (by kernel_rfl) (by kernel_rfl) (by kernel_rfl) (fun _ _ _ h => h) (Or.inl ⟨by rfl, ?q5_h32⟩) (by assumption) ?q5_r32
                case q5_h32 => (intro w hSw; (try dsimp only at hSw); go_simp; try (with_reducible rfl))
                simp only [List.set_cons_zero, List.set_cons_succ]
                refine takeH 33 51 (v := ?q5_v33) rfl rfl (by kernel_rfl) (by kernel_rfl) (by kernel_rfl) (fun _ _ _ h => h) (Or.inl ⟨by rfl, ?q5_h33⟩) (by assumption) ?q5_r33
                case q5_h33 => (intro w hSw; (try dsimp only at hSw); go_simp; try (with_reducible rfl))
                simp only [List.set_cons_zero, List.set_cons_succ]
                refine takeH 34 52 (v := ?q5_v34) rfl rfl (by kernel_rfl) (by kernel_rfl) (by kernel_rfl) (fun _ _ _ h => h) (Or.inl ⟨by rfl, ?q5_h34⟩) (by assumption) ?q5_r34
                case q5_h34 => (intro w hSw; (try dsimp only at hSw); go_simp; try (with_reducible rfl))
                simp only [List.set_cons_zero, List.set_cons_succ]
                refine wpAnyH_ready (rs := [35]) (by kernel_rfl) (by simp) ?_
                refine AllReadyH.cons rfl (fun K hK => ?_) AllReadyH.nil
                go_simp
                go_wp2_with (go_at_call 82; refine (refAhead_at zA xA zc xc zl xl _ _ HZ.out.ix HE.out.ix HU3.out).mono ?_; rintro e w7 ⟨rfl, hb5⟩; (replace HE := Lib.hid (HE.out.later hb5); replace HZ := Lib.hid (HZ.out.later hb5); clear hb5))
                refine hK.out _ _ ?_ (fun hHeld => ?_)
                · exact ⟨HE.out.S.i1, HE.out.S.c3, HE.out.S.c4, HE.out.S.s0, HE.out.S.s1, HE.out.x0, HE.out.y0, HE.out.y1, HE.out.y2, HE.out.y3, HE.out.y4, HZ.out.x0⟩
                clear hK K
                refine takeH 36 54 (v := ?q5_v36) rfl rfl (by kernel_rfl) (by kernel_rfl) (by kernel_rfl) (fun _ _ _ h => h) (Or.inl ⟨by rfl, ?q5_h36⟩) (by assumption) ?q5_r36
                case q5_h36 => (intro w hSw; (try dsimp only at hSw); go_simp; try (with_reducible rfl))
                simp only [List.set_cons_zero, List.set_cons_succ]
                refine takeH 37 55 (v := ?q5_v37) rfl rfl (by kernel_rfl) (by kernel_rfl) (by kernel_rfl) (fun _ _ _ h => h) (Or.inl ⟨by rfl, ?q5_h37⟩) (by assumption) ?q5_r37
                case q5_h37 => (intro w hSw; (try dsimp only at hSw); go_simp; try (with_reducible rfl))
                simp only [List.set_cons_zero, List.set_cons_succ]
                refine takeH 38 56 (v := ?q5_v38) rfl rfl (by kernel_rfl) (by kernel_rfl) (by kernel_rfl) (fun _ _ _ h => h) (Or.inl ⟨by rfl, ?q5_h38⟩) (by assumption) ?q5_r38
                case q5_h38 => (intro w hSw; (try dsimp only at hSw); go_simp; try (with_reducible rfl))
                simp only [List.set_cons_zero, List.set_cons_succ]
                refine wpAnyH_done (by kernel_rfl) ?_ _
                refine NoPanic.normal ?_
                clear s1 s2 s3 s4 s5 HZ HU3
                go_wp2_with fail
                go_loopw [6] (fun kv wr => ∃ (k2 : Nat), k2 ≤ i ∧ kv = .int .i64 k2 ∧ Hid (((cs.map Ck.l).take k2).all (fun d => decide (cmpC d xl = 2)) = true) ∧ Hid (SibE w (some ⟨b, off, none⟩) c b off ak aA ac al (some ⟨b1, off1, none⟩) cc cs.length (some ⟨b2, off2, none⟩) vc vs.length b1 (off1 + i) b2 (off2 + i * 5) ⟨xA, xc, xl⟩ (.mk yn ym ysA ysc yss ycA ycc ycs yvA yvc yvs) wr)) (fun kv _ => i - (intOf kv).toNat)
                case atStart => exact ⟨0, Nat.zero_le _, rfl, by simp [Hid], HE⟩
                case round =>
                  clear HE
                  rename_i wq
                  obtain ⟨k2, hk2, rfl, hall2, HE⟩ := hrel
                  by_cases hlt2 : k2 < i
                  · obtain ⟨z2, hz2⟩ : ∃ z, cs[k2]? = some z := ⟨_, List.getElem?_eq_getElem (by omega)⟩
                    obtain ⟨b3, off3, he3, hb3, hcz⟩ := clock_at (HP.out.cl.below HE.out.S.bel) hz2
                    obtain ⟨rfl, rfl⟩ : b1 = b3 ∧ off1 = off3 := by cases he3; exact ⟨rfl, rfl⟩
                    have HIZ := Lib.hid ((HP.out.ck z2 (List.mem_of_getElem? hz2)).later HE.out.S.bel)
                    have HZ2 := Lib.hid hz2
                    clear hz2 he3
                    obtain ⟨zA2, zc2, zl2⟩ := z2
                    simp only [Ck.v] at hcz
                    dsimp only at HIZ
                    have e3 := HE.out.S.c3
                    have e0 := HE.out.x0
                    dsimp only at e0
                    have hk2i : (k2 : Int) < (cs.length : Int) := by omega
                    obtain ⟨u4, hu4⟩ : ∃ u, cmpC zl2 xl = u := ⟨_, rfl⟩
                    have HU4 := Lib.hid hu4
                    clear hu4
                    have hik : (k2 : Int) < (i : Int) := by omega
                    go_wp2_with fail
                    go_still_tail 10, (by kernel_rfl)
                    change wpList _ _ _ _ _ wr.drew
                    go_wp2_with fail
                    refine (refCmp_at zA2 xA zc2 xc zl2 xl u4 _ (HIZ.out.later (drewB wr)) (HE.out.ix.later (drewB wr)) HU4.out).mono ?_
                    rintro e w8 ⟨rfl, hb8⟩
                    replace HE := Lib.hid (HE.out.later ((drewB wr).trans hb8))
                    clear hb8 hcz e3 e0
                    by_cases h2 : u4 = 2
                    · subst h2
                      go_wp2_with fail
                      go_roundw
                      case rel => exact ⟨k2 + 1, by omega, by go_num, all_succ hall2.out (map_at (f := Ck.l) HZ2.out) (decide_eq_true HU4.out), HE⟩
                      case measure => simp [intOf]; omega
                    · have d2 : (u4 == 2) = false := by simp [h2]
                      have HF : Hid (R = false) := by
                        show R = false
                        have ha : ((cs.map Ck.l).take i).all (fun d => decide (cmpC d xl = 2)) = false := all_fail (k := k2) (x := zl2) (by rw [List.getElem?_take_of_lt hlt2]; exact map_at (f := Ck.l) HZ2.out) (decide_eq_false (by rw [HU4.out]; exact h2))
                        rw [← HG.out, ha]
                        rfl
                      clear h2
                      go_wp2_with fail
                      go_ret
                      exact ⟨ret_bool HF.out.symm, HE.out.S.bel⟩
                  · have hke : k2 = i := by omega
                    subst hke
                    have HN : Hid (sibGo p ((cs.map Ck.l).take (k2 + 1)) ((cs.map Ck.l).drop (k2 + 1)) ((vs.map Vl.er).drop (k2 + 1)) = R) := by
                      have := HG.out
                      rw [hall2.out] at this
                      exact this
                    go_wp2_with fail
                    go_roundw
                    case rel => exact ⟨k2 + 1, by omega, by go_num, HN, HE.out.S⟩
                    case measure => simp [intOf]; omega
      · have hd : (cs.map Ck.l).drop i = [] := List.drop_eq_nil_of_le (by rw [List.length_map]; omega)
        have HEE := Lib.hid ((sibGo_end (p := p) (pre := (cs.map Ck.l).take i) (vs := (vs.map Vl.er).drop i) hd).symm.trans h0.out)
        clear hd h0
        go_wp2_with fail
        go_ret
        exact ⟨ret_bool HEE.out, hbw⟩
  · rw [decide_eq_false c40, Bool.false_and]
    have d40 : 40 < cs.length := by omega
    go_enter Tryz.func53, Tryz.ntmps53
    go_wp2_with fail
    go_ret
    exact ⟨rfl, HC.out.bel⟩
end Go.Proofs.YtleejffjnknohaaGreat.V4

namespace Go.Proofs.YtleejffjnknohaaGreat.R1
open Go.RowKit

set_option maxHeartbeats 400000 in
theorem refRises_any (A : Option Addr) (c : Nat) (xs : List Str) (w : World) (hl : Lies w A xs) (hn : xs.length ≤ maxLen) :
    Calls Tryz.prog 51 #[.slice A xs.length c] w fun e w' => e = .returned (.bool (decide (Srt xs))) ∧ ∃ n, w' = w.drewN n := by
  unfold maxLen at hn
  go_enter Tryz.func51, Tryz.ntmps51
  go_wp2
  go_loopw [3] (fun i wr => ∃ k n : Nat, (k + 1 ≤ xs.length ∨ k = 0) ∧ i = .int .i64 (k + 1 : Nat) ∧ wr = w.drewN n ∧ Hid (Srt (xs.take (k + 1)))) (fun i _ => xs.length - (intOf i).toNat)
  case atStart => exact ⟨0, 0, .inr rfl, rfl, rfl, srt_take_one xs⟩
  case round =>
    obtain ⟨k, n, hk, rfl, rfl, h0⟩ := hrel
    by_cases hlt : k + 1 < xs.length
    · obtain ⟨b, off, rfl, hb, hc⟩ := hl.get hlt
      obtain ⟨x, hx⟩ : ∃ x, xs[k]? = some x := ⟨_, List.getElem?_eq_getElem (by omega)⟩
      obtain ⟨y, hy⟩ : ∃ x, xs[k + 1]? = some x := ⟨_, List.getElem?_eq_getElem hlt⟩
      have hcx := hc k x hx
      have hcy := hc (k + 1) y hy
      have HX := Lib.hid hx
      have HY := Lib.hid hy
      clear hx hy hc hl
      by_cases hxy : x < y
      · have hb2 := bl_true hxy
        have HN := Lib.hid hxy
        clear hxy
        go_wp2
        go_quiet (fail)
        go_wp2
        go_roundw
        case rel => exact ⟨k + 1, _, by omega, by go_num, rfl, srt_snoc h0.out HX.out HY.out HN.out⟩
        case measure => simp [intOf]; omega
      · have hb2 := bl_false hxy
        have HN := Lib.hid hxy
        clear hxy
        go_wp2
        go_quiet (fail)
        go_wp2
        go_ret
        exact ⟨ret_bool (decide_eq_false (srt_no HX.out HY.out HN.out)).symm, drew2 _ _ _⟩
    · go_wp2
      go_ret
      exact ⟨ret_bool (decide_eq_true (srt_all h0.out (by omega))).symm, _, rfl⟩

end Go.Proofs.YtleejffjnknohaaGreat.R1

namespace Go.Proofs.YtleejffjnknohaaGreat.V4
open Go.RowKit
open C3 (Tk Asc isC ofC cmpC Nok In belAl allocB drewB RetT)
open S2 (Tr Sc isT)

theorem refFits_at (k : Int) (A : Option Addr) (c ln : Nat) (n m : Int) (sA : Option Addr) (sc : Nat) (ss : List Str) (cA : Option Addr) (cc : Nat) (cs : List Ck) (vA : Option Addr) (vc : Nat) (vs : List Vl) (v : Bool) (w : World) (h : (Vl.mk n m sA sc ss cA cc cs vA vc vs).In w) (hv : fitsV k (Vl.mk n m sA sc ss cA cc cs vA vc vs).er = v) :
    Calls Tryz.prog 50 #[.agg #[.int .i64 k, .slice A ln c], .agg #[.int .u64 n, .int .u64 m, .slice sA ss.length sc, .slice cA cs.length cc, .slice vA vs.length vc]] w (RetV w (.bool v)) := hv ▸ refFits_any k A c ln _ w h
theorem refRises_at (A : Option Addr) (c : Nat) (xs : List Str) (v : Bool) (w : World) (hl : Lies w A xs) (hn : xs.length ≤ maxLen) (hv : decide (R1.Srt xs) = v) :
    Calls Tryz.prog 51 #[.slice A xs.length c] w (RetV w (.bool v)) := hv ▸ (R1.refRises_any A c xs w hl hn).mono fun _ _ ⟨h1, n, h2⟩ => ⟨h1, h2 ▸ below_drewN (Below.refl _ _) n⟩

set_option maxRecDepth 100000 in
set_option maxHeartbeats 4000000 in
theorem refIsV_1 (A : Option Addr) (c : Nat) (x : Vl) (w : World) (hx : x.In w) : Calls Tryz.prog 32 #[(Sc.mk 1 A c []).val, x.val] w (RetV w (.bool (baseV 1 x.er && true))) := by
  obtain ⟨n, m, sA, sc, ss, cA, cc, cs, vA, vc, vs⟩ := x
  have HB0 : Hid (Below w.heap.size w ((w.alloc (.cells #[.int .i64 1, .slice A 0 c] 24)).alloc (.cells #[.int .u64 n, .int .u64 m, .slice sA ss.length sc, .slice cA cs.length cc, .slice vA vs.length vc] 32))) := belAl (allocB _ _)
  have HX := Lib.hid (hx.later HB0.out)
  have P := hx.out
  have HP := Lib.hid P
  have HSB : Hid (ss.length ≤ maxLen) := Nat.le_trans P.sb.1 P.sb.2.1
  have hsm : ss.length ≤ 9223372036854775807 := by have := P.sb; unfold maxLen at this; omega
  have hcm : cs.length ≤ 9223372036854775807 := by have := P.cb; unfold maxLen at this; omega
  have hvm : vs.length ≤ 9223372036854775807 := by have := P.vb; unfold maxLen at this; omega
  obtain ⟨t, ht⟩ : ∃ z, fitsV 1 (Vl.mk n m sA sc ss cA cc cs vA vc vs).er = z := ⟨_, rfl⟩
  obtain ⟨u, hu⟩ : ∃ z, decide (R1.Srt ss) = z := ⟨_, rfl⟩
  obtain ⟨q, hq⟩ : ∃ z, decide (ss.length ≤ 40) = z := ⟨_, rfl⟩
  have HF : Hid (baseV 1 (Vl.mk n m sA sc ss cA cc cs vA vc vs).er = (t && (u && q))) := by
    show baseV _ _ = _
    unfold baseV
    rw [ht, er_mk, show (Va.mk n m ss (cs.map Ck.l) (vs.map Vl.er)).s = ss from rfl, hu, hq]
  have HT := Lib.hid ht
  have HU := Lib.hid hu
  have HQ := Lib.hid hq
  rw [HF.out]
  clear hx P ht hu hq HF
  simp only [S2.val_mk, val_mk, List.length_nil]
  go_enter Tryz.func32, Tryz.ntmps32
  go_wp2_with fail
  refine (refFits_at 1 A c 0 n m sA sc ss cA cc cs vA vc vs t _ HX.out HT.out).mono ?_
  rintro e w1 ⟨rfl, hb1⟩
  have HBX : Hid (Boxes w 1 A 0 c n m sA ss.length sc cA cs.length cc vA vs.length vc w1) := Boxes.later ⟨by go_simp, by go_simp, by go_simp, by go_simp, by go_simp, by go_simp, by go_simp, by simp, HB0.out⟩ hb1
  clear hb1 HB0 HX
  cases t with
  | false =>
    go_wp2_with fail
    go_ret
    exact ⟨rfl, HBX.out.bel⟩
  | true =>
    have c2 := HBX.out.c2
    go_wp2_with fail
    refine (refRises_at sA sc ss u _ (HP.out.sl.below HBX.out.bel) HSB.out HU.out).mono ?_
    rintro e w2 ⟨rfl, hb2⟩
    replace HBX := Lib.hid (HBX.out.later hb2)
    clear hb2 c2
    cases u with
    | false =>
      go_wp2_with fail
      go_ret
      exact ⟨rfl, HBX.out.bel⟩
    | true =>
      have c2 := HBX.out.c2
      have i0 := HBX.out.i0
      cases q with
      | false =>
        have dq : 40 < ss.length := by have := of_decide_eq_false HQ.out; omega
        go_wp2_with fail
        go_ret
        exact ⟨rfl, HBX.out.bel⟩
      | true =>
        have dq : decide (40 < (ss.length : Int)) = false := decide_eq_false (by have := of_decide_eq_true HQ.out; omega)
        go_wp2_with fail
        go_ret
        exact ⟨rfl, HBX.out.bel⟩

set_option maxRecDepth 100000 in
set_option maxHeartbeats 4000000 in
theorem refIsV_2 (A : Option Addr) (c : Nat) (x : Vl) (w : World) (hx : x.In w) : Calls Tryz.prog 32 #[(Sc.mk 2 A c []).val, x.val] w (RetV w (.bool (baseV 2 x.er && true))) := by
  obtain ⟨n, m, sA, sc, ss, cA, cc, cs, vA, vc, vs⟩ := x
  have HB0 : Hid (Below w.heap.size w ((w.alloc (.cells #[.int .i64 2, .slice A 0 c] 24)).alloc (.cells #[.int .u64 n, .int .u64 m, .slice sA ss.length sc, .slice cA cs.length cc, .slice vA vs.length vc] 32))) := belAl (allocB _ _)
  have HX := Lib.hid (hx.later HB0.out)
  have P := hx.out
  have HP := Lib.hid P
  have HSB : Hid (ss.length ≤ maxLen) := Nat.le_trans P.sb.1 P.sb.2.1
  have hsm : ss.length ≤ 9223372036854775807 := by have := P.sb; unfold maxLen at this; omega
  have hcm : cs.length ≤ 9223372036854775807 := by have := P.cb; unfold maxLen at this; omega
  have hvm : vs.length ≤ 9223372036854775807 := by have := P.vb; unfold maxLen at this; omega
  obtain ⟨t, ht⟩ : ∃ z, fitsV 2 (Vl.mk n m sA sc ss cA cc cs vA vc vs).er = z := ⟨_, rfl⟩
  obtain ⟨u, hu⟩ : ∃ z, decide (R1.Srt ss) = z := ⟨_, rfl⟩
  obtain ⟨q, hq⟩ : ∃ z, decide (ss.length ≤ 40) = z := ⟨_, rfl⟩
  have HF : Hid (baseV 2 (Vl.mk n m sA sc ss cA cc cs vA vc vs).er = (t && (u && q))) := by
    show baseV _ _ = _
    unfold baseV
    rw [ht, er_mk, show (Va.mk n m ss (cs.map Ck.l) (vs.map Vl.er)).s = ss from rfl, hu, hq]
  have HT := Lib.hid ht
  have HU := Lib.hid hu
  have HQ := Lib.hid hq
  rw [HF.out]
  clear hx P ht hu hq HF
  simp only [S2.val_mk, val_mk, List.length_nil]
  go_enter Tryz.func32, Tryz.ntmps32
  go_wp2_with fail
  refine (refFits_at 2 A c 0 n m sA sc ss cA cc cs vA vc vs t _ HX.out HT.out).mono ?_
  rintro e w1 ⟨rfl, hb1⟩
  have HBX : Hid (Boxes w 2 A 0 c n m sA ss.length sc cA cs.length cc vA vs.length vc w1) := Boxes.later ⟨by go_simp, by go_simp, by go_simp, by go_simp, by go_simp, by go_simp, by go_simp, by simp, HB0.out⟩ hb1
  clear hb1 HB0 HX
  cases t with
  | false =>
    go_wp2_with fail
    go_ret
    exact ⟨rfl, HBX.out.bel⟩
  | true =>
    have c2 := HBX.out.c2
    go_wp2_with fail
    refine (refRises_at sA sc ss u _ (HP.out.sl.below HBX.out.bel) HSB.out HU.out).mono ?_
    rintro e w2 ⟨rfl, hb2⟩
    replace HBX := Lib.hid (HBX.out.later hb2)
    clear hb2 c2
    cases u with
    | false =>
      go_wp2_with fail
      go_ret
      exact ⟨rfl, HBX.out.bel⟩
    | true =>
      have c2 := HBX.out.c2
      have i0 := HBX.out.i0
      cases q with
      | false =>
        have dq : 40 < ss.length := by have := of_decide_eq_false HQ.out; omega
        go_wp2_with fail
        go_ret
        exact ⟨rfl, HBX.out.bel⟩
      | true =>
        have dq : decide (40 < (ss.length : Int)) = false := decide_eq_false (by have := of_decide_eq_true HQ.out; omega)
        go_wp2_with fail
        go_ret
        exact ⟨rfl, HBX.out.bel⟩

set_option maxRecDepth 100000 in
set_option maxHeartbeats 4000000 in
theorem refIsV_3 (A : Option Addr) (c : Nat) (x : Vl) (w : World) (hx : x.In w) : Calls Tryz.prog 32 #[(Sc.mk 3 A c []).val, x.val] w (RetV w (.bool (baseV 3 x.er && true))) := by
  obtain ⟨n, m, sA, sc, ss, cA, cc, cs, vA, vc, vs⟩ := x
  have HB0 : Hid (Below w.heap.size w ((w.alloc (.cells #[.int .i64 3, .slice A 0 c] 24)).alloc (.cells #[.int .u64 n, .int .u64 m, .slice sA ss.length sc, .slice cA cs.length cc, .slice vA vs.length vc] 32))) := belAl (allocB _ _)
  have HX := Lib.hid (hx.later HB0.out)
  have P := hx.out
  have HP := Lib.hid P
  have HSB : Hid (ss.length ≤ maxLen) := Nat.le_trans P.sb.1 P.sb.2.1
  have hsm : ss.length ≤ 9223372036854775807 := by have := P.sb; unfold maxLen at this; omega
  have hcm : cs.length ≤ 9223372036854775807 := by have := P.cb; unfold maxLen at this; omega
  have hvm : vs.length ≤ 9223372036854775807 := by have := P.vb; unfold maxLen at this; omega
  obtain ⟨t, ht⟩ : ∃ z, fitsV 3 (Vl.mk n m sA sc ss cA cc cs vA vc vs).er = z := ⟨_, rfl⟩
  obtain ⟨u, hu⟩ : ∃ z, decide (R1.Srt ss) = z := ⟨_, rfl⟩
  obtain ⟨q, hq⟩ : ∃ z, decide (ss.length ≤ 40) = z := ⟨_, rfl⟩
  have HF : Hid (baseV 3 (Vl.mk n m sA sc ss cA cc cs vA vc vs).er = (t && (u && q))) := by
    show baseV _ _ = _
    unfold baseV
    rw [ht, er_mk, show (Va.mk n m ss (cs.map Ck.l) (vs.map Vl.er)).s = ss from rfl, hu, hq]
  have HT := Lib.hid ht
  have HU := Lib.hid hu
  have HQ := Lib.hid hq
  rw [HF.out]
  clear hx P ht hu hq HF
  simp only [S2.val_mk, val_mk, List.length_nil]
  go_enter Tryz.func32, Tryz.ntmps32
  go_wp2_with fail
  refine (refFits_at 3 A c 0 n m sA sc ss cA cc cs vA vc vs t _ HX.out HT.out).mono ?_
  rintro e w1 ⟨rfl, hb1⟩
  have HBX : Hid (Boxes w 3 A 0 c n m sA ss.length sc cA cs.length cc vA vs.length vc w1) := Boxes.later ⟨by go_simp, by go_simp, by go_simp, by go_simp, by go_simp, by go_simp, by go_simp, by simp, HB0.out⟩ hb1
  clear hb1 HB0 HX
  cases t with
  | false =>
    go_wp2_with fail
    go_ret
    exact ⟨rfl, HBX.out.bel⟩
  | true =>
    have c2 := HBX.out.c2
    go_wp2_with fail
    refine (refRises_at sA sc ss u _ (HP.out.sl.below HBX.out.bel) HSB.out HU.out).mono ?_
    rintro e w2 ⟨rfl, hb2⟩
    replace HBX := Lib.hid (HBX.out.later hb2)
    clear hb2 c2
    cases u with
    | false =>
      go_wp2_with fail
      go_ret
      exact ⟨rfl, HBX.out.bel⟩
    | true =>
      have c2 := HBX.out.c2
      have i0 := HBX.out.i0
      cases q with
      | false =>
        have dq : 40 < ss.length := by have := of_decide_eq_false HQ.out; omega
        go_wp2_with fail
        go_ret
        exact ⟨rfl, HBX.out.bel⟩
      | true =>
        have dq : decide (40 < (ss.length : Int)) = false := decide_eq_false (by have := of_decide_eq_true HQ.out; omega)
        go_wp2_with fail
        go_ret
        exact ⟨rfl, HBX.out.bel⟩

set_option maxRecDepth 100000 in
set_option maxHeartbeats 4000000 in
theorem refIsV_6 (A : Option Addr) (c : Nat) (x : Vl) (w : World) (hx : x.In w) : Calls Tryz.prog 32 #[(Sc.mk 6 A c []).val, x.val] w (RetV w (.bool (baseV 6 x.er && true))) := by
  obtain ⟨n, m, sA, sc, ss, cA, cc, cs, vA, vc, vs⟩ := x
  have HB0 : Hid (Below w.heap.size w ((w.alloc (.cells #[.int .i64 6, .slice A 0 c] 24)).alloc (.cells #[.int .u64 n, .int .u64 m, .slice sA ss.length sc, .slice cA cs.length cc, .slice vA vs.length vc] 32))) := belAl (allocB _ _)
  have HX := Lib.hid (hx.later HB0.out)
  have P := hx.out
  have HP := Lib.hid P
  have HSB : Hid (ss.length ≤ maxLen) := Nat.le_trans P.sb.1 P.sb.2.1
  have hsm : ss.length ≤ 9223372036854775807 := by have := P.sb; unfold maxLen at this; omega
  have hcm : cs.length ≤ 9223372036854775807 := by have := P.cb; unfold maxLen at this; omega
  have hvm : vs.length ≤ 9223372036854775807 := by have := P.vb; unfold maxLen at this; omega
  obtain ⟨t, ht⟩ : ∃ z, fitsV 6 (Vl.mk n m sA sc ss cA cc cs vA vc vs).er = z := ⟨_, rfl⟩
  obtain ⟨u, hu⟩ : ∃ z, decide (R1.Srt ss) = z := ⟨_, rfl⟩
  obtain ⟨q, hq⟩ : ∃ z, decide (ss.length ≤ 40) = z := ⟨_, rfl⟩
  have HF : Hid (baseV 6 (Vl.mk n m sA sc ss cA cc cs vA vc vs).er = (t && (u && q))) := by
    show baseV _ _ = _
    unfold baseV
    rw [ht, er_mk, show (Va.mk n m ss (cs.map Ck.l) (vs.map Vl.er)).s = ss from rfl, hu, hq]
  have HT := Lib.hid ht
  have HU := Lib.hid hu
  have HQ := Lib.hid hq
  rw [HF.out]
  clear hx P ht hu hq HF
  simp only [S2.val_mk, val_mk, List.length_nil]
  go_enter Tryz.func32, Tryz.ntmps32
  go_wp2_with fail
  refine (refFits_at 6 A c 0 n m sA sc ss cA cc cs vA vc vs t _ HX.out HT.out).mono ?_
  rintro e w1 ⟨rfl, hb1⟩
  have HBX : Hid (Boxes w 6 A 0 c n m sA ss.length sc cA cs.length cc vA vs.length vc w1) := Boxes.later ⟨by go_simp, by go_simp, by go_simp, by go_simp, by go_simp, by go_simp, by go_simp, by simp, HB0.out⟩ hb1
  clear hb1 HB0 HX
  cases t with
  | false =>
    go_wp2_with fail
    go_ret
    exact ⟨rfl, HBX.out.bel⟩
  | true =>
    have c2 := HBX.out.c2
    go_wp2_with fail
    refine (refRises_at sA sc ss u _ (HP.out.sl.below HBX.out.bel) HSB.out HU.out).mono ?_
    rintro e w2 ⟨rfl, hb2⟩
    replace HBX := Lib.hid (HBX.out.later hb2)
    clear hb2 c2
    cases u with
    | false =>
      go_wp2_with fail
      go_ret
      exact ⟨rfl, HBX.out.bel⟩
    | true =>
      have c2 := HBX.out.c2
      have i0 := HBX.out.i0
      cases q with
      | false =>
        have dq : 40 < ss.length := by have := of_decide_eq_false HQ.out; omega
        go_wp2_with fail
        go_ret
        exact ⟨rfl, HBX.out.bel⟩
      | true =>
        have dq : decide (40 < (ss.length : Int)) = false := decide_eq_false (by have := of_decide_eq_true HQ.out; omega)
        go_wp2_with fail
        go_ret
        exact ⟨rfl, HBX.out.bel⟩

set_option maxRecDepth 100000 in
set_option maxHeartbeats 4000000 in
theorem refIsV_7 (A : Option Addr) (c : Nat) (x : Vl) (w : World) (hx : x.In w) : Calls Tryz.prog 32 #[(Sc.mk 7 A c []).val, x.val] w (RetV w (.bool (baseV 7 x.er && clockV x.er.c))) := by
  obtain ⟨n, m, sA, sc, ss, cA, cc, cs, vA, vc, vs⟩ := x
  have HB0 : Hid (Below w.heap.size w ((w.alloc (.cells #[.int .i64 7, .slice A 0 c] 24)).alloc (.cells #[.int .u64 n, .int .u64 m, .slice sA ss.length sc, .slice cA cs.length cc, .slice vA vs.length vc] 32))) := belAl (allocB _ _)
  have HX := Lib.hid (hx.later HB0.out)
  have P := hx.out
  have HP := Lib.hid P
  have HSB : Hid (ss.length ≤ maxLen) := Nat.le_trans P.sb.1 P.sb.2.1
  have hsm : ss.length ≤ 9223372036854775807 := by have := P.sb; unfold maxLen at this; omega
  have hcm : cs.length ≤ 9223372036854775807 := by have := P.cb; unfold maxLen at this; omega
  have hvm : vs.length ≤ 9223372036854775807 := by have := P.vb; unfold maxLen at this; omega
  obtain ⟨t, ht⟩ : ∃ z, fitsV 7 (Vl.mk n m sA sc ss cA cc cs vA vc vs).er = z := ⟨_, rfl⟩
  obtain ⟨u, hu⟩ : ∃ z, decide (R1.Srt ss) = z := ⟨_, rfl⟩
  obtain ⟨q, hq⟩ : ∃ z, decide (ss.length ≤ 40) = z := ⟨_, rfl⟩
  have HF : Hid (baseV 7 (Vl.mk n m sA sc ss cA cc cs vA vc vs).er = (t && (u && q))) := by
    show baseV _ _ = _
    unfold baseV
    rw [ht, er_mk, show (Va.mk n m ss (cs.map Ck.l) (vs.map Vl.er)).s = ss from rfl, hu, hq]
  have HT := Lib.hid ht
  have HU := Lib.hid hu
  have HQ := Lib.hid hq
  rw [HF.out]
  clear hx P ht hu hq HF
  simp only [S2.val_mk, val_mk, List.length_nil]
  go_enter Tryz.func32, Tryz.ntmps32
  go_wp2_with fail
  refine (refFits_at 7 A c 0 n m sA sc ss cA cc cs vA vc vs t _ HX.out HT.out).mono ?_
  rintro e w1 ⟨rfl, hb1⟩
  have HBX : Hid (Boxes w 7 A 0 c n m sA ss.length sc cA cs.length cc vA vs.length vc w1) := Boxes.later ⟨by go_simp, by go_simp, by go_simp, by go_simp, by go_simp, by go_simp, by go_simp, by simp, HB0.out⟩ hb1
  clear hb1 HB0 HX
  cases t with
  | false =>
    go_wp2_with fail
    go_ret
    exact ⟨rfl, HBX.out.bel⟩
  | true =>
    have c2 := HBX.out.c2
    go_wp2_with fail
    refine (refRises_at sA sc ss u _ (HP.out.sl.below HBX.out.bel) HSB.out HU.out).mono ?_
    rintro e w2 ⟨rfl, hb2⟩
    replace HBX := Lib.hid (HBX.out.later hb2)
    clear hb2 c2
    cases u with
    | false =>
      go_wp2_with fail
      go_ret
      exact ⟨rfl, HBX.out.bel⟩
    | true =>
      have c2 := HBX.out.c2
      have i0 := HBX.out.i0
      cases q with
      | false =>
        have dq : 40 < ss.length := by have := of_decide_eq_false HQ.out; omega
        go_wp2_with fail
        go_ret
        exact ⟨rfl, HBX.out.bel⟩
      | true =>
        have dq : decide (40 < (ss.length : Int)) = false := decide_eq_false (by have := of_decide_eq_true HQ.out; omega)
        have c3 := HBX.out.c3
        cases cs with
        | nil =>
          simp only [List.length_nil] at c3
          go_wp2_with fail
          go_ret
          exact ⟨ret_bool (by rw [er_mk]; rfl), HBX.out.bel⟩
        | cons x0 cs =>
          obtain ⟨b1, off1, rfl, hb1, hcx⟩ := clock_at (HP.out.cl.below HBX.out.bel) (k := 0) (x := x0) rfl
          have HIX := Lib.hid ((HP.out.ck x0 (by simp)).later HBX.out.bel)
          obtain ⟨xA, xc, xl⟩ := x0
          simp only [Ck.v, Nat.add_zero] at hcx
          dsimp only at HIX
          simp only [List.length_cons] at c3 hcm
          have hl0 : (((cs.length : Int) + 1) == 0) = false := beq_eq_false_iff_ne.2 (by omega)
          have hl1 : 0 < (cs.length : Int) + 1 := by omega
          obtain ⟨v, hv⟩ : ∃ z, isC xl = z := ⟨_, rfl⟩
          have HV := Lib.hid hv
          have HR : Hid (clockV (Vl.mk n m sA sc ss (some ⟨b1, off1, none⟩) cc (⟨xA, xc, xl⟩ :: cs) vA vc vs).er.c = (v && decide (0 < xl.length))) := by show clockV _ = _; rw [er_mk, ← hv]; rfl
          clear hv
          go_wp2_with fail
          refine (refIsC_at xA xc xl v _ HIX.out HV.out).mono ?_
          rintro e w3 ⟨rfl, hb3⟩
          have hcx3 := (hb3.cell (p := ⟨b1, off1, none⟩) (Nat.lt_of_lt_of_le hb1 HBX.out.bel.size)).trans hcx
          replace HBX := Lib.hid (HBX.out.later hb3)
          clear hb3 hcx c3 c2 i0
          have c3 := HBX.out.c3
          simp only [List.length_cons] at c3
          cases v with
          | false =>
            go_wp2_with fail
            go_ret
            exact ⟨ret_bool (by rw [HR.out]; rfl), HBX.out.bel⟩
          | true =>
            have hxl : xl.length ≤ 9223372036854775807 := by have := HIX.out.cap; have := HIX.out.top; unfold maxLen at this; omega
            go_wp2_with fail
            go_ret
            refine ⟨ret_bool ?_, HBX.out.bel⟩
            rw [HR.out]
            simp

set_option maxRecDepth 100000 in
set_option maxHeartbeats 4000000 in
theorem refIsV_8 (A : Option Addr) (c : Nat) (a : Sc) (x : Vl) (w : World) (hs : (Sc.mk 8 A c [a]).In w.heap.size w) (hx : x.In w) (p : Va → Bool) (ih : ∀ (y : Vl) (w : World), a.In w.heap.size w → y.In w → Calls Tryz.prog 32 #[a.val, y.val] w (RetV w (.bool (p y.er)))) : Calls Tryz.prog 32 #[(Sc.mk 8 A c [a]).val, x.val] w (RetV w (.bool (baseV 8 x.er && sibsV p x.er))) := by
  obtain ⟨n, m, sA, sc, ss, cA, cc, cs, vA, vc, vs⟩ := x
  have HS := Lib.hid hs
  have HX0 := Lib.hid hx
  clear hs
  have HB0 : Hid (Below w.heap.size w ((w.alloc (.cells #[.int .i64 8, .slice A 1 c] 24)).alloc (.cells #[.int .u64 n, .int .u64 m, .slice sA ss.length sc, .slice cA cs.length cc, .slice vA vs.length vc] 32))) := belAl (allocB _ _)
  have HX := Lib.hid (hx.later HB0.out)
  have P := hx.out
  have HP := Lib.hid P
  have HSB : Hid (ss.length ≤ maxLen) := Nat.le_trans P.sb.1 P.sb.2.1
  have hsm : ss.length ≤ 9223372036854775807 := by have := P.sb; unfold maxLen at this; omega
  have hcm : cs.length ≤ 9223372036854775807 := by have := P.cb; unfold maxLen at this; omega
  have hvm : vs.length ≤ 9223372036854775807 := by have := P.vb; unfold maxLen at this; omega
  obtain ⟨t, ht⟩ : ∃ z, fitsV 8 (Vl.mk n m sA sc ss cA cc cs vA vc vs).er = z := ⟨_, rfl⟩
  obtain ⟨u, hu⟩ : ∃ z, decide (R1.Srt ss) = z := ⟨_, rfl⟩
  obtain ⟨q, hq⟩ : ∃ z, decide (ss.length ≤ 40) = z := ⟨_, rfl⟩
  have HF : Hid (baseV 8 (Vl.mk n m sA sc ss cA cc cs vA vc vs).er = (t && (u && q))) := by
    show baseV _ _ = _
    unfold baseV
    rw [ht, er_mk, show (Va.mk n m ss (cs.map Ck.l) (vs.map Vl.er)).s = ss from rfl, hu, hq]
  have HT := Lib.hid ht
  have HU := Lib.hid hu
  have HQ := Lib.hid hq
  rw [HF.out]
  clear hx P ht hu hq HF
  simp only [S2.val_mk, val_mk, List.length_nil, List.length_cons, Nat.zero_add]
  go_enter Tryz.func32, Tryz.ntmps32
  go_wp2_with fail
  refine (refFits_at 8 A c 1 n m sA sc ss cA cc cs vA vc vs t _ HX.out HT.out).mono ?_
  rintro e w1 ⟨rfl, hb1⟩
  have HBX : Hid (Boxes w 8 A 1 c n m sA ss.length sc cA cs.length cc vA vs.length vc w1) := Boxes.later ⟨by go_simp, by go_simp, by go_simp, by go_simp, by go_simp, by go_simp, by go_simp, by simp, HB0.out⟩ hb1
  clear hb1 HB0 HX
  cases t with
  | false =>
    go_wp2_with fail
    go_ret
    exact ⟨rfl, HBX.out.bel⟩
  | true =>
    have c2 := HBX.out.c2
    go_wp2_with fail
    refine (refRises_at sA sc ss u _ (HP.out.sl.below HBX.out.bel) HSB.out HU.out).mono ?_
    rintro e w2 ⟨rfl, hb2⟩
    replace HBX := Lib.hid (HBX.out.later hb2)
    clear hb2 c2
    cases u with
    | false =>
      go_wp2_with fail
      go_ret
      exact ⟨rfl, HBX.out.bel⟩
    | true =>
      have c2 := HBX.out.c2
      have i0 := HBX.out.i0
      cases q with
      | false =>
        have dq : 40 < ss.length := by have := of_decide_eq_false HQ.out; omega
        go_wp2_with fail
        go_ret
        exact ⟨rfl, HBX.out.bel⟩
      | true =>
        have dq : decide (40 < (ss.length : Int)) = false := decide_eq_false (by have := of_decide_eq_true HQ.out; omega)
        have hlen : (Vl.mk n m sA sc ss cA cc cs vA vc vs).er.c.length = (Vl.mk n m sA sc ss cA cc cs vA vc vs).er.v.length := by
          have h := HT.out
          rw [er_mk, fits_ne 8 (by decide) (by decide) (by decide) (by decide) (by decide) (by decide) (by decide), Bool.and_eq_true] at h
          rw [er_mk]
          exact of_decide_eq_true h.2
        have HSI := Lib.hid ((HS.out.keep HBX.out.bel).up HBX.out.bel.size)
        have HXI := Lib.hid (HX0.out.later HBX.out.bel)
        have HSB8 := Lib.hid (refSib_any 8 A c a (.mk n m sA sc ss cA cc cs vA vc vs) w2 HSI.out HXI.out hlen p ih)
        clear hlen ih
        obtain ⟨ak, aA, ac, al⟩ := a
        simp only [S2.val_mk, val_mk, List.length_nil, List.length_cons, Nat.zero_add] at HSB8
        have i1 := HBX.out.i1
        have c0 := HBX.out.c0
        have c1 := HBX.out.c1
        have c3 := HBX.out.c3
        have c4 := HBX.out.c4
        go_wp2_with fail
        refine HSB8.out.mono ?_
        rintro e w3 ⟨rfl, hb3⟩
        have hbw3 := (HBX.out.later hb3).bel
        clear hb3
        generalize sibsV p (Vl.mk n m sA sc ss cA cc cs vA vc vs).er = z at *
        go_wp2_with fail
        go_ret
        exact ⟨rfl, hbw3⟩

end Go.Proofs.YtleejffjnknohaaGreat.V4
