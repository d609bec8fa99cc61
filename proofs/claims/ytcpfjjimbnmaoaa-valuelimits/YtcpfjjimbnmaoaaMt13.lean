/- What the reference's with does. No condition but that the ticks lie in memory, at most 1000, and that the number is not 0. What the reference's Up and JoinClocks do. No condition but that the ticks lie in memory, at most 100, and that no number is 0. What cmp.Compare, clock.byWho, clock.wrong, clock.later, clock.rises do. No condition but that the ticks lie in memory. What slices.IndexFunc and slices.ContainsFunc do with clock.wrong; clock.Is, slices.Equal, clock.Same. No condition but that the ticks lie in memory. What slices.BinarySearchFunc does with clock.byWho; clock.found, clock.Of. No condition but that the ticks lie in memory and rise, at most 1000. What clock.found and clock.Of do. No condition but that the ticks lie in memory and rise, at most 1000. -/
import Derived.Test.YtcpfjjimbnmaoaaMt01
import Derived.StillTailTactics
import Derived.Deep.RegionHeld3
namespace Go.Proofs.Ytcpfjjimbnmaoaa.C3
open Go.RowKit

theorem drop_at {l : List Tk} {i : Nat} {x : Tk} (hx : l[i]? = some x) : l.drop i = x :: l.drop (i + 1) := by
  obtain ⟨hi, he⟩ := List.getElem?_eq_some_iff.1 hx
  rw [List.drop_eq_getElem_cons hi, he]

/-- What is still to come: with the tick, or, if it is in, without. -/
def restC (d : Bool) (l : List Tk) (q n : Int) : List Tk := if d then l else withC l q n

theorem restC_true {l ys : List Tk} {W : List Tk} {k : Nat} {x : Tk} {q n : Int} (h : W = ys ++ restC true (l.drop k) q n) (hx : l[k]? = some x) : W = (ys ++ [x]) ++ restC true (l.drop (k + 1)) q n := by
  rw [h, drop_at hx]; simp [restC]
theorem restC_lt {l ys : List Tk} {W : List Tk} {k : Nat} {x : Tk} {q n : Int} (h : W = ys ++ restC false (l.drop k) q n) (hx : l[k]? = some x) (hlt : x.k < q) : W = (ys ++ [x]) ++ restC false (l.drop (k + 1)) q n := by
  rw [h, drop_at hx]; simp [restC, withC, hlt]
theorem restC_eq {l ys : List Tk} {W : List Tk} {k : Nat} {x : Tk} {q n : Int} (h : W = ys ++ restC false (l.drop k) q n) (hx : l[k]? = some x) (hlt : x.k = q) : W = (ys ++ [⟨q, max n x.n⟩]) ++ restC true (l.drop (k + 1)) q n := by
  rw [h, drop_at hx]; simp [restC, withC, hlt]
theorem restC_gt {l ys : List Tk} {W : List Tk} {k : Nat} {x : Tk} {q n : Int} (h : W = ys ++ restC false (l.drop k) q n) (hx : l[k]? = some x) (hlt : q < x.k) : W = ((ys ++ [⟨q, n⟩]) ++ [x]) ++ restC true (l.drop (k + 1)) q n := by
  rw [h, drop_at hx, restC, if_neg (by simp), withC, if_neg (by omega), if_neg (by omega)]; simp [restC]

theorem LiesB.new {w : World} {x : Tk} {t : TypeId} : LiesB (w.heap.size + 1) (w.alloc (.cells #[.int .i64 x.k, .int .u64 x.n] t)) (some ⟨w.heap.size, 0, none⟩) [x] :=
  LiesB.one (by omega) (by simp) (by simp)

theorem len1 {ys : List Tk} {x : Tk} (h : ys.length ≤ 100000) : ys.length + [x].length ≤ 1000000 := by simp; omega
theorem len_snoc {ys : List Tk} {x : Tk} {m : Nat} (h : ys.length + 1 ≤ m) : (ys ++ [x]).length ≤ m := by simp; omega

end Go.Proofs.Ytcpfjjimbnmaoaa.C3

namespace Go.Proofs.Ytcpfjjimbnmaoaa.C3
open Go.RowKit

theorem joinC_succ {a b ys : List Tk} {k : Nat} {y : Tk} (h : ys = joinC a (b.take k)) (hy : b[k]? = some y) : withC ys y.k y.n = joinC a (b.take (k + 1)) := by
  obtain ⟨hi, he⟩ := List.getElem?_eq_some_iff.1 hy
  rw [List.take_succ_eq_append_getElem hi, he, h]
  unfold joinC
  rw [List.foldl_append]
  rfl
theorem joinC_end {a b ys : List Tk} {k : Nat} (h : ys = joinC a (b.take k)) (hk : b.length ≤ k) : ys = joinC a b := by rwa [List.take_of_length_le hk] at h

end Go.Proofs.Ytcpfjjimbnmaoaa.C3

namespace Go.Proofs.Ytcpfjjimbnmaoaa.C3
open Go.RowKit

set_option maxHeartbeats 400000 in
theorem isNaN_any (x : Int) (w : World) : Calls Try.prog 102 #[.int .i64 x] w fun e w' => e = .returned (.bool false) ∧ w = w' := by
  go_enter Try.func102, Try.ntmps102
  go_wp2
  go_ret
  exact ⟨rfl, rfl⟩

def cmpI (x y : Int) : Int := if x < y then -1 else if y < x then 1 else 0
theorem cmpI_lt {x y : Int} (h : x < y) : cmpI x y = -1 := if_pos h
theorem cmpI_gt {x y : Int} (h : y < x) : cmpI x y = 1 := by unfold cmpI; rw [if_neg (by omega), if_pos h]
theorem cmpI_eq (x : Int) : cmpI x x = 0 := by unfold cmpI; rw [if_neg (by omega), if_neg (by omega)]

set_option maxHeartbeats 400000 in
theorem compare_any (x y : Int) (w : World) : Calls Try.prog 97 #[.int .i64 x, .int .i64 y] w fun e w' => e = .returned (.int .i64 (cmpI x y)) ∧ w = w' := by
  rcases Int.lt_trichotomy x y with h | h | h
  · rw [cmpI_lt h]
    go_enter Try.func97, Try.ntmps97
    go_wp2_with (go_at_call 102; refine (isNaN_any _ _).mono ?_; rintro e w' ⟨rfl, rfl⟩)
    go_ret
    exact ⟨rfl, rfl⟩
  · subst h
    rw [cmpI_eq]
    go_enter Try.func97, Try.ntmps97
    go_wp2_with (go_at_call 102; refine (isNaN_any _ _).mono ?_; rintro e w' ⟨rfl, rfl⟩)
    go_ret
    exact ⟨rfl, rfl⟩
  · rw [cmpI_gt h]
    have h1 : ¬ x < y := by omega
    go_enter Try.func97, Try.ntmps97
    go_wp2_with (go_at_call 102; refine (isNaN_any _ _).mono ?_; rintro e w' ⟨rfl, rfl⟩)
    go_ret
    exact ⟨rfl, rfl⟩

set_option maxHeartbeats 400000 in
theorem byWho_any (xk xn yk yn : Int) (w : World) : Calls Try.prog 91 #[.agg #[.int .i64 xk, .int .u64 xn], .agg #[.int .i64 yk, .int .u64 yn]] w (RetV w (.int .i64 (cmpI xk yk))) := by
  go_enter Try.func91, Try.ntmps91
  go_wp2_with (go_at_call 97; refine (compare_any _ _ _).mono ?_; rintro e w' ⟨rfl, rfl⟩)
  go_ret
  exact ⟨rfl, belAl (belAl (Below.refl _ _))⟩

set_option maxHeartbeats 400000 in
theorem wrong_any (xk xn : Int) (w : World) : Calls Try.prog 93 #[.agg #[.int .i64 xk, .int .u64 xn]] w (RetV w (.bool (bad ⟨xk, xn⟩))) := by
  obtain ⟨p, hp⟩ : ∃ p, bad ⟨xk, xn⟩ = p := ⟨_, rfl⟩
  rw [hp]
  unfold bad at hp
  dsimp only at hp
  by_cases c1 : xk < 0
  · simp [c1] at hp
    subst hp
    go_enter Try.func93, Try.ntmps93
    go_wp2_with fail
    go_ret
    exact ⟨rfl, allocB _ _⟩
  · have d1 : decide (xk < 0) = false := decide_eq_false c1
    by_cases c2 : 1000000 < xk
    · simp [c2] at hp
      subst hp
      go_enter Try.func93, Try.ntmps93
      go_wp2_with fail
      go_ret
      exact ⟨rfl, allocB _ _⟩
    · have d2 : decide (1000000 < xk) = false := decide_eq_false c2
      by_cases c3 : xn = 0
      · simp [c3] at hp
        subst hp
        subst c3
        go_enter Try.func93, Try.ntmps93
        go_wp2_with fail
        go_ret
        exact ⟨rfl, allocB _ _⟩
      · simp [c1, c2, c3] at hp
        subst hp
        have d3 : (xn == 0) = false := by simp [c3]
        go_enter Try.func93, Try.ntmps93
        go_wp2_with fail
        go_ret
        exact ⟨rfl, allocB _ _⟩

/-- A call that answers the tick t. -/
def RetK (w : World) (t : Tk) (e : Ending) (w' : World) : Prop := e = .returned (.agg #[.int .i64 t.k, .int .u64 t.n]) ∧ Below w.heap.size w w'

theorem asc_fall {l : List Tk} {i : Nat} {x y : Tk} (hy : l[i]? = some y) (hx : l[i + 1]? = some x) (hb : x.k ≤ y.k) : decide (Asc l) = false := by
  refine decide_eq_false fun h => ?_
  obtain ⟨h1, e1⟩ := List.getElem?_eq_some_iff.1 hy
  obtain ⟨h2, e2⟩ := List.getElem?_eq_some_iff.1 hx
  have := List.pairwise_iff_getElem.1 h i (i + 1) h1 h2 (by omega)
  rw [e1, e2] at this
  omega
theorem asc_end {l : List Tk} {i : Nat} (h1 : Asc (l.take i)) (hi : l.length ≤ i) : decide (Asc l) = true := by
  rw [List.take_of_length_le hi] at h1
  exact decide_eq_true h1
theorem asc_take1 (l : List Tk) : Asc (l.take 1) := by
  cases l with
  | nil => exact List.Pairwise.nil
  | cons x l => exact List.pairwise_singleton _ _

set_option maxRecDepth 100000 in
set_option maxHeartbeats 400000 in
theorem rises_any (A : Option Addr) (c : Nat) (l : List Tk) (w : World) (h : In w A c l) :
    Calls Try.prog 90 #[.slice A l.length c, .func (.func 91) #[] #[]] w (RetV w (.bool (decide (Asc l)))) := by
  obtain ⟨hl, hcap, htop, -⟩ := h
  have hlm : l.length ≤ 9223372036854775807 := by unfold maxLen at htop; omega
  clear hcap htop
  go_enter Try.func90, Try.ntmps90
  go_wp2_with fail
  go_loopw [5] (fun iv wr => ∃ k : Nat, iv = .int .i64 ((k : Int) + 1) ∧ (k ≤ l.length) ∧ Hid (Asc (l.take (k + 1))) ∧ Below w.heap.size w wr) (fun iv _ => l.length + 1 - (intOf iv).toNat)
  case atStart => exact ⟨0, rfl, Nat.zero_le _, asc_take1 l, Below.refl _ _⟩
  case round =>
    obtain ⟨k, rfl, hk, h1, hbw⟩ := hrel
    by_cases hlt : k + 1 < l.length
    · obtain ⟨b, off, rfl, hb, hc⟩ := (hl.below hbw).get hlt
      obtain ⟨x, hx⟩ : ∃ x, l[k + 1]? = some x := ⟨_, List.getElem?_eq_getElem hlt⟩
      obtain ⟨y, hy⟩ : ∃ y, l[k]? = some y := ⟨_, List.getElem?_eq_getElem (by omega)⟩
      obtain ⟨hc0, hc1⟩ := hc (k + 1) x hx
      obtain ⟨hd0, hd1⟩ := hc k y hy
      have HX := Lib.hid hx
      have HY := Lib.hid hy
      clear hx hy hc hl
      obtain ⟨xk, xn⟩ := x
      obtain ⟨yk, yn⟩ := y
      dsimp only at hc0 hc1 hd0 hd1
      have hki : (k : Int) + 1 < (l.length : Int) := by omega
      have hki0 : (k : Int) < (l.length : Int) := by omega
      have HBW := Lib.hid hbw
      have s1 : IntKind.i64.wrap (k : Int) = (k : Int) := IntWalk.i64_in _ (by omega)
      have s2 : 0 ≤ (k : Int) + 1 := by omega
      have s3 : ((k : Int) + 1).toNat = k + 1 := by omega
      clear hbw
      go_wp2_with fail
      go_still_tail 10, (by kernel_rfl)
      change wpList _ _ _ _ _ wr.drew
      clear s1 s2 s3
      go_wp2_with fail
      refine (byWho_any yk yn xk xn _).mono ?_
      rintro e w4 ⟨rfl, hb4⟩
      have hbw4 : Below w.heap.size w w4 := (HBW.out.drew).trans (hb4.mono HBW.out.size)
      by_cases c4 : yk < xk
      · have HC := Lib.hid c4
        rw [cmpI_lt c4]
        clear c4
        go_wp2_with fail
        go_roundw
        case rel => exact ⟨k + 1, by go_num, by omega, asc_succ h1.out HY.out HX.out HC.out, hbw4⟩
        case measure => simp [intOf]; omega
      · have HC : Hid (xk ≤ yk) := by show xk ≤ yk; omega
        have c5 : 0 ≤ cmpI yk xk := by unfold cmpI; rw [if_neg c4]; split <;> omega
        generalize cmpI yk xk = q at *
        clear c4
        go_wp2_with fail
        go_ret
        exact ⟨ret_bool (asc_fall HY.out HX.out HC.out).symm, hbw4⟩
    · go_wp2_with fail
      go_ret
      exact ⟨ret_bool (asc_end h1.out (by omega)).symm, hbw⟩
end Go.Proofs.Ytcpfjjimbnmaoaa.C3

namespace Go.Proofs.Ytcpfjjimbnmaoaa.C3
open Go.RowKit

/-- A call that answers a place, not below 0 just if b. -/
def RetIx (w : World) (b : Bool) (e : Ending) (w' : World) : Prop := ∃ i : Int, e = .returned (.int .i64 i) ∧ decide (0 ≤ i) = b ∧ Below w.heap.size w w'

theorem any_succ {p : Tk → Bool} {l : List Tk} {k : Nat} {x : Tk} (h0 : (l.take k).any p = false) (hx : l[k]? = some x) (h : p x = false) : (l.take (k + 1)).any p = false := by
  obtain ⟨hi, he⟩ := List.getElem?_eq_some_iff.1 hx
  rw [List.take_succ_eq_append_getElem hi, List.any_append, h0, he]
  simp [h]
theorem any_end {p : Tk → Bool} {l : List Tk} {k : Nat} (h0 : (l.take k).any p = false) (h : l.length ≤ k) : l.any p = false := by rwa [List.take_of_length_le h] at h0
theorem any_yes {p : Tk → Bool} {l : List Tk} {k : Nat} {x : Tk} (hx : l[k]? = some x) (h : p x = true) : l.any p = true := List.any_eq_true.2 ⟨x, List.mem_of_getElem? hx, h⟩

set_option maxHeartbeats 400000 in
theorem indexWrong_any (A : Option Addr) (c : Nat) (l : List Tk) (w : World) (h : In w A c l) :
    Calls Try.prog 101 #[.slice A l.length c, .func (.func 93) #[] #[]] w (RetIx w (l.any bad)) := by
  obtain ⟨hl, hcap, htop, -⟩ := h
  have hlm : l.length ≤ 9223372036854775807 := by unfold maxLen at htop; omega
  clear hcap htop
  go_enter Try.func101, Try.ntmps101
  go_wp2_with fail
  go_loopw [8] (fun iv wr => ∃ k : Nat, k ≤ l.length ∧ iv = .int .i64 k ∧ Hid ((l.take k).any bad = false) ∧ Below w.heap.size w wr) (fun iv _ => l.length - (intOf iv).toNat)
  case atStart => exact ⟨0, Nat.zero_le _, rfl, by simp [Hid], Below.refl _ _⟩
  case round =>
    obtain ⟨k, hk, rfl, h0, hbw⟩ := hrel
    by_cases hlt : k < l.length
    · obtain ⟨b, off, rfl, hb, hc⟩ := (hl.below hbw).get hlt
      obtain ⟨x, hx⟩ : ∃ x, l[k]? = some x := ⟨_, List.getElem?_eq_getElem hlt⟩
      obtain ⟨hc0, hc1⟩ := hc k x hx
      have HX := Lib.hid hx
      clear hx hc hl
      obtain ⟨xk, xn⟩ := x
      dsimp only at hc0 hc1
      obtain ⟨q, hq⟩ : ∃ q, bad ⟨xk, xn⟩ = q := ⟨_, rfl⟩
      have HQ := Lib.hid hq
      clear hq
      go_wp2_with fail
      refine (wrong_any xk xn wr).mono ?_
      rintro e w' ⟨rfl, hb2⟩
      have hb3 : Below w.heap.size w w' := hbw.trans (hb2.mono hbw.size)
      rw [HQ.out]
      cases q with
      | true =>
        go_wp2_with fail
        go_ret
        exact ⟨_, rfl, (by rw [any_yes HX.out HQ.out]; exact decide_eq_true (by omega)), hb3⟩
      | false =>
        go_wp2_with fail
        go_roundw
        case rel => exact ⟨k + 1, by omega, by go_num, any_succ h0.out HX.out HQ.out, hb3⟩
        case measure => simp [intOf]; omega
    · go_wp2_with fail
      go_ret
      exact ⟨_, rfl, (by rw [any_end h0.out (by omega)]; rfl), hbw⟩

set_option maxHeartbeats 400000 in
theorem containsWrong_any (A : Option Addr) (c : Nat) (l : List Tk) (w : World) (h : In w A c l) :
    Calls Try.prog 92 #[.slice A l.length c, .func (.func 93) #[] #[]] w (RetV w (.bool (l.any bad))) := by
  have HA := Lib.hid h
  clear h
  go_enter Try.func92, Try.ntmps92
  go_wp2_with fail
  refine (indexWrong_any A c l w HA.out).mono ?_
  rintro e w' ⟨i, rfl, hi, hb⟩
  have HI := Lib.hid hi
  clear hi
  go_wp2_with fail
  go_ret
  exact ⟨ret_bool HI.out, hb⟩

set_option maxHeartbeats 400000 in
theorem Is_any (A : Option Addr) (c : Nat) (l : List Tk) (w : World) (h : In w A c l) :
    Calls Try.prog 80 #[.slice A l.length c] w (RetV w (.bool (isC l))) := by
  have HA := Lib.hid h
  have hlm : l.length ≤ 9223372036854775807 := by have := h.cap; have := h.top; unfold maxLen at this; omega
  clear h
  by_cases c1 : l.length ≤ 40
  · obtain ⟨p, hp⟩ : ∃ p, decide (Asc l) = p := ⟨_, rfl⟩
    obtain ⟨q, hq⟩ : ∃ q, l.any bad = q := ⟨_, rfl⟩
    have HR : Hid (isC l = (p && !q)) := by show isC l = _; unfold isC; rw [decide_eq_true c1, hp, hq]; rfl
    rw [HR.out]
    have HP := Lib.hid hp
    have HQ := Lib.hid hq
    clear hp hq
    go_enter Try.func80, Try.ntmps80
    go_wp2_with fail
    refine (rises_any A c l w HA.out).mono ?_
    rintro e w1 ⟨rfl, hb1⟩
    rw [HP.out]
    cases p with
    | false =>
      go_wp2_with fail
      go_ret
      exact ⟨rfl, hb1⟩
    | true =>
      go_wp2_with fail
      refine (containsWrong_any A c l w1 (HA.out.later hb1)).mono ?_
      rintro e w2 ⟨rfl, hb2⟩
      rw [HQ.out]
      go_wp2_with fail
      go_ret
      exact ⟨by simp, hb1.trans (hb2.mono hb1.size)⟩
  · have HR : Hid (isC l = false) := by show isC l = _; unfold isC; rw [decide_eq_false c1]; rfl
    rw [HR.out]
    have d1 : decide ((l.length : Int) ≤ 40) = false := decide_eq_false (by omega)
    go_enter Try.func80, Try.ntmps80
    go_wp2_with fail
    go_ret
    exact ⟨rfl, Below.refl _ _⟩

set_option maxHeartbeats 400000 in
theorem equal_any (A A' : Option Addr) (c c' : Nat) (l l' : List Tk) (w : World) (h : In w A c l) (h' : In w A' c' l') :
    Calls Try.prog 74 #[.slice A l.length c, .slice A' l'.length c'] w (RetV w (.bool (decide (l = l')))) := by
  obtain ⟨hl, hcap, htop, -⟩ := h
  obtain ⟨hl', -, -, -⟩ := h'
  have hlm : l.length ≤ 9223372036854775807 := by unfold maxLen at htop; omega
  clear hcap htop
  by_cases hlen : l.length = l'.length
  · have HLEN := Lib.hid hlen
    have hle : l'.length = l.length := hlen.symm
    clear hlen
    rw [hle]
    clear hle
    go_enter Try.func74, Try.ntmps74
    go_wp2_with fail
    go_loopw [13] (fun iv wr => ∃ k : Nat, k ≤ l.length ∧ iv = .int .i64 k ∧ Hid (l.take k = l'.take k) ∧ Below w.heap.size w wr) (fun iv _ => l.length - (intOf iv).toNat)
    case atStart => exact ⟨0, Nat.zero_le _, rfl, by simp [Hid], Below.refl _ _⟩
    case round =>
      obtain ⟨k, hk, rfl, h0, hbw⟩ := hrel
      by_cases hlt : k < l.length
      · have hlt' : k < l'.length := by have := HLEN.out; omega
        obtain ⟨b, off, rfl, hb, hc⟩ := (hl.below hbw).get hlt
        obtain ⟨x, hx⟩ : ∃ x, l[k]? = some x := ⟨_, List.getElem?_eq_getElem hlt⟩
        obtain ⟨hc0, hc1⟩ := hc k x hx
        have HX := Lib.hid hx
        obtain ⟨b', off', rfl, hb', hc'⟩ := (hl'.below hbw).get hlt'
        obtain ⟨y, hy⟩ : ∃ y, l'[k]? = some y := ⟨_, List.getElem?_eq_getElem hlt'⟩
        obtain ⟨hd0, hd1⟩ := hc' k y hy
        have HY := Lib.hid hy
        clear hx hc hl hy hc' hl'
        obtain ⟨xk, xn⟩ := x
        obtain ⟨yk, yn⟩ := y
        dsimp only at hc0 hc1 hd0 hd1
        have hki : (k : Int) < (l.length : Int) := by omega
        by_cases he : xk = yk ∧ xn = yn
        · obtain ⟨rfl, rfl⟩ := he
          go_wp2_with fail
          go_quiet (fail)
          go_wp2_with fail
          go_roundw
          case rel => exact ⟨k + 1, by omega, by go_num, take_eq_succ h0.out HX.out HY.out, below_drewN hbw _⟩
          case measure => simp [intOf]; omega
        · have HE := Lib.hid he
          have HNE : Hid (Tk.mk xk xn ≠ Tk.mk yk yn) := by intro e; cases e; exact HE.out ⟨rfl, rfl⟩
          by_cases hk1 : xk = yk
          · have hn1 : ¬ xn = yn := fun e => he ⟨hk1, e⟩
            have hk2 : (xk == yk) = true := by simp [hk1]
            have hn2 : (xn == yn) = false := by simp [hn1]
            clear he hk1 hn1
            go_wp2_with fail
            go_quiet (fail)
            go_wp2_with fail
            go_ret
            exact ⟨ret_bool (ne_at HX.out HY.out HNE.out).symm, below_drewN hbw _⟩
          · have hk2 : (xk == yk) = false := by simp [hk1]
            clear he hk1
            go_wp2_with fail
            go_quiet (fail)
            go_wp2_with fail
            go_ret
            exact ⟨ret_bool (ne_at HX.out HY.out HNE.out).symm, below_drewN hbw _⟩
      · go_wp2_with fail
        go_ret
        exact ⟨ret_bool (eq_all h0.out (by omega) (by have := HLEN.out; omega)).symm, hbw⟩
  · rw [ne_len hlen]
    have hne : ¬ ((l.length : Int) = l'.length) := by omega
    clear hlen
    go_enter Try.func74, Try.ntmps74
    go_wp2_with fail
    go_ret
    exact ⟨rfl, Below.refl _ _⟩

set_option maxHeartbeats 400000 in
theorem Same_any (A A' : Option Addr) (c c' : Nat) (l l' : List Tk) (w : World) (h : In w A c l) (h' : In w A' c' l') :
    Calls Try.prog 57 #[.slice A l.length c, .slice A' l'.length c'] w (RetV w (.bool (decide (l = l')))) := by
  have HE := Lib.hid (equal_any A A' c c' l l' w h h')
  clear h h'
  go_enter Try.func57, Try.ntmps57
  go_wp2_with fail
  refine HE.out.mono ?_
  rintro e w' ⟨rfl, hb⟩
  go_wp2_with fail
  go_ret
  exact ⟨rfl, hb⟩
end Go.Proofs.Ytcpfjjimbnmaoaa.C3

namespace Go.Proofs.Ytcpfjjimbnmaoaa.C3
open Go.RowKit

theorem take_mono {xs : List Tk} {q : Int} {m : Nat} {y : Tk} (h : Asc xs) (hy : xs[m]? = some y) (hlt : y.k < q) : ∀ x ∈ xs.take (m + 1), x.k < q := by
  intro x hx
  obtain ⟨hm, he⟩ := List.getElem?_eq_some_iff.1 hy
  obtain ⟨i, hi, rfl⟩ := List.mem_iff_getElem.1 hx
  simp only [List.getElem_take]
  have hi' : i < m + 1 := by simp at hi; omega
  rcases Nat.lt_or_ge i m with h1 | h1
  · have := List.pairwise_iff_getElem.1 h i m (by omega) hm h1
    rw [he] at this
    exact Int.lt_trans this hlt
  · have : i = m := by omega
    subst this
    rw [he]; exact hlt

theorem drop_mono {xs : List Tk} {q : Int} {m : Nat} {y : Tk} (h : Asc xs) (hy : xs[m]? = some y) (hge : q ≤ y.k) : ∀ x ∈ xs.drop m, q ≤ x.k := by
  intro x hx
  obtain ⟨hm, he⟩ := List.getElem?_eq_some_iff.1 hy
  rw [List.drop_eq_getElem_cons hm, he] at hx
  rcases List.mem_cons.1 hx with e | e
  · rw [e]; exact hge
  · have hp : Asc (xs.drop m) := List.Pairwise.drop h
    rw [List.drop_eq_getElem_cons hm, he] at hp
    have := (List.pairwise_cons.1 hp).1 x e
    omega

theorem found_no {xs : List Tk} {q : Int} {m : Nat} (h : Asc xs) (h1 : ∀ x ∈ xs.take m, x.k < q) (h2 : ∀ y, xs[m]? = some y → q < y.k) : ∀ x ∈ xs, x.k ≠ q := by
  intro s hs e
  rw [← List.take_append_drop m xs] at hs
  rcases List.mem_append.1 hs with k | k
  · have := h1 s k
    omega
  · cases hx : xs[m]? with
    | none =>
      rw [List.getElem?_eq_none_iff] at hx
      rw [List.drop_eq_nil_of_le hx] at k
      cases k
    | some y =>
      have hlt := h2 y hx
      have := drop_mono (q := y.k) h hx (Int.le_refl _) s k
      omega

/-- A call that answers a place and whether it is there. -/
def RetPos (l : List Tk) (q : Int) (w : World) (e : Ending) (w' : World) : Prop :=
  ∃ (m : Nat) (b : Bool), e = .returned (.tuple #[.int .i64 m, .bool b]) ∧ (b = true → ∃ x, l[m]? = some x ∧ x.k = q) ∧ (b = false → ∀ x ∈ l, x.k ≠ q) ∧ Below w.heap.size w w'

set_option maxRecDepth 100000 in
set_option maxHeartbeats 1000000 in
theorem search_any (A : Option Addr) (c : Nat) (l : List Tk) (q tn : Int) (w : World) (h : In w A c l) (ha : Asc l) (hlen : l.length ≤ 1000) :
    Calls Try.prog 107 #[.slice A l.length c, .agg #[.int .i64 q, .int .u64 tn], .func (.func 91) #[] #[]] w (RetPos l q w) := by
  obtain ⟨hl, -, -, -⟩ := h
  have HS := Lib.hid ha
  clear ha
  go_enter Try.func107, Try.ntmps107
  go_wp2_with fail
  go_loopw [9, 10] (fun i j wr => ∃ lo hi : Nat, lo ≤ hi ∧ hi ≤ l.length ∧ i = .int .i64 lo ∧ j = .int .i64 hi ∧ Hid (∀ x ∈ l.take lo, x.k < q) ∧ Hid (∀ x ∈ l.drop hi, q ≤ x.k) ∧ Below w.heap.size w wr ∧
    wr.cell? ⟨w.heap.size, 0, none⟩ = some (.int .i64 q) ∧ wr.cell? ⟨w.heap.size, 1, none⟩ = some (.int .u64 tn) ∧ w.heap.size < wr.heap.size) (fun i j _ => (intOf j).toNat - (intOf i).toNat)
  case atStart => exact ⟨0, l.length, Nat.zero_le _, Nat.le_refl _, rfl, rfl, by simp [Hid], by simp [Hid], allocB _ _, by simp, by simp, by simp⟩
  case round =>
    obtain ⟨lo, hi, hlh, hin, rfl, rfl, h1, h2, hbw, hx0, hx1, hsz⟩ := hrel
    by_cases hlt : lo < hi
    · have hmid : (lo + hi) / 2 < l.length := by omega
      obtain ⟨b, off, rfl, hb, hc⟩ := (hl.below hbw).get hmid
      obtain ⟨y, hy⟩ : ∃ y, l[(lo + hi) / 2]? = some y := ⟨_, List.getElem?_eq_getElem hmid⟩
      obtain ⟨hc0, hc1⟩ := hc _ y hy
      have HY := Lib.hid hy
      clear hy hc hl
      obtain ⟨yk, yn⟩ := y
      dsimp only at hc0 hc1
      have hmI : ((lo : Int) + (hi : Int)) / 2 < (l.length : Int) := by omega
      have hmN : (((lo : Int) + (hi : Int)) / 2).toNat = (lo + hi) / 2 := by omega
      have hm0 : 0 ≤ ((lo : Int) + (hi : Int)) / 2 := by omega
      have hmE : ((lo : Int) + (hi : Int)) / 2 = (((lo + hi) / 2 : Nat) : Int) := by omega
      have HME := Lib.hid hmE
      have HBW := Lib.hid hbw
      clear hmE hbw
      go_wp2_with fail
      go_still_tail 6, (by kernel_rfl)
      change wpList _ _ _ _ _ wr.drew
      clear hmI hmN hm0
      go_wp2_with fail
      refine (byWho_any yk yn q tn _).mono ?_
      rintro e w4 ⟨rfl, hb4⟩
      have hbw4 : Below w.heap.size w w4 := (HBW.out.drew).trans (hb4.mono HBW.out.size)
      have hy0 : w4.cell? ⟨w.heap.size, 0, none⟩ = some (.int .i64 q) := (hb4.cell (p := ⟨w.heap.size, 0, none⟩) hsz).trans hx0
      have hy1 : w4.cell? ⟨w.heap.size, 1, none⟩ = some (.int .u64 tn) := (hb4.cell (p := ⟨w.heap.size, 1, none⟩) hsz).trans hx1
      have hsz4 : w.heap.size < w4.heap.size := Nat.lt_of_lt_of_le hsz hb4.size
      clear hb4 hx0 hx1 hsz hc0 hc1
      rw [HME.out]
      by_cases c4 : yk < q
      · have HC := Lib.hid c4
        rw [cmpI_lt c4]
        clear c4
        go_wp2_with fail
        go_roundw
        case rel => exact ⟨(lo + hi) / 2 + 1, hi, by omega, hin, by go_num, rfl, take_mono HS.out HY.out HC.out, h2, hbw4, hy0, hy1, hsz4⟩
        case measure => simp [intOf]; omega
      · have HC : Hid (q ≤ yk) := by show q ≤ yk; omega
        have c5 : 0 ≤ cmpI yk q := by unfold cmpI; rw [if_neg c4]; split <;> omega
        generalize cmpI yk q = z at *
        clear c4
        go_wp2_with fail
        go_roundw
        case rel => exact ⟨lo, (lo + hi) / 2, by omega, by omega, rfl, by go_num, h1, drop_mono HS.out HY.out HC.out, hbw4, hy0, hy1, hsz4⟩
        case measure => simp [intOf]; omega
    · obtain rfl : lo = hi := by omega
      by_cases hmid : lo < l.length
      · obtain ⟨b, off, rfl, hb, hc⟩ := (hl.below hbw).get hmid
        obtain ⟨y, hy⟩ : ∃ y, l[lo]? = some y := ⟨_, List.getElem?_eq_getElem hmid⟩
        obtain ⟨hc0, hc1⟩ := hc _ y hy
        have HY := Lib.hid hy
        have HM : Hid (q ≤ y.k) := h2.out y (by rw [drop_at hy]; simp)
        clear hy hc hl
        obtain ⟨yk, yn⟩ := y
        dsimp only at hc0 hc1 HM
        have hli : (lo : Int) < (l.length : Int) := by omega
        have hbb : b < wr.heap.size := Nat.lt_of_lt_of_le hb hbw.size
        have HBW : Hid (Below w.heap.size w wr.drew) := hbw.drew
        clear hbw
        by_cases c4 : yk = q
        · have HC := Lib.hid c4
          have HZ : Hid (cmpI yk q = 0) := by show cmpI yk q = 0; rw [c4, cmpI_eq]
          clear c4
          go_wp2_with fail
          go_region_held3 (fun w' => w'.cell? ⟨b, off + lo * 2, none⟩ = some (.int .i64 yk) ∧ w'.cell? ⟨b, off + lo * 2 + 1, none⟩ = some (.int .u64 yn) ∧ w'.cell? ⟨w.heap.size, 0, none⟩ = some (.int .i64 q) ∧ w'.cell? ⟨w.heap.size, 1, none⟩ = some (.int .u64 tn))
            (first
              | exact ⟨hc0, hc1, hx0, hx1⟩)
            (first
              | (go_at_call 91; refine (byWho_any yk yn q tn _).mono ?_; rintro e w4 ⟨rfl, hb4⟩; (rw [HZ.out]; replace hc0 := (hb4.cell (p := ⟨b, off + lo * 2, none⟩) hbb).trans hc0; replace hc1 := (hb4.cell (p := ⟨b, off + lo * 2 + 1, none⟩) hbb).trans hc1; replace hx0 := (hb4.cell (p := ⟨w.heap.size, 0, none⟩) hsz).trans hx0; replace hx1 := (hb4.cell (p := ⟨w.heap.size, 1, none⟩) hsz).trans hx1; replace HBW : Hid (Below w.heap.size w w4) := HBW.out.trans (hb4.mono HBW.out.size); clear hb4)))
          go_wp2_with fail
          go_ret2
          exact ⟨lo, true, rfl, fun _ => ⟨_, HY.out, HC.out⟩, (fun h => by cases h), HBW.out⟩
        · have HC := Lib.hid c4
          have HZ : Hid (cmpI yk q = 1) := cmpI_gt (by have := HM.out; omega)
          clear c4
          go_wp2_with fail
          go_region_held3 (fun w' => w'.cell? ⟨b, off + lo * 2, none⟩ = some (.int .i64 yk) ∧ w'.cell? ⟨b, off + lo * 2 + 1, none⟩ = some (.int .u64 yn) ∧ w'.cell? ⟨w.heap.size, 0, none⟩ = some (.int .i64 q) ∧ w'.cell? ⟨w.heap.size, 1, none⟩ = some (.int .u64 tn))
            (first
              | exact ⟨hc0, hc1, hx0, hx1⟩)
            (first
              | (go_at_call 91; refine (byWho_any yk yn q tn _).mono ?_; rintro e w4 ⟨rfl, hb4⟩; (rw [HZ.out]; replace hc0 := (hb4.cell (p := ⟨b, off + lo * 2, none⟩) hbb).trans hc0; replace hc1 := (hb4.cell (p := ⟨b, off + lo * 2 + 1, none⟩) hbb).trans hc1; replace hx0 := (hb4.cell (p := ⟨w.heap.size, 0, none⟩) hsz).trans hx0; replace hx1 := (hb4.cell (p := ⟨w.heap.size, 1, none⟩) hsz).trans hx1; replace HBW : Hid (Below w.heap.size w w4) := HBW.out.trans (hb4.mono HBW.out.size); clear hb4)))
          go_wp2_with fail
          go_ret2
          refine ⟨lo, false, rfl, (fun h => by cases h), fun _ => found_no HS.out h1.out fun z hz => ?_, HBW.out⟩
          have e := HY.out
          rw [hz] at e
          cases e
          have := HM.out
          have := HC.out
          show q < yk
          omega
      · have d1 : decide ((lo : Int) < (l.length : Int)) = false := decide_eq_false (by omega)
        go_wp2_with fail
        go_quiet (fail)
        go_wp2_with fail
        go_ret2
        exact ⟨lo, false, rfl, (fun h => by cases h), fun _ => found_no HS.out h1.out fun z hz => absurd (List.getElem?_eq_some_iff.1 hz).1 hmid, below_drewN hbw _⟩
end Go.Proofs.Ytcpfjjimbnmaoaa.C3

namespace Go.Proofs.Ytcpfjjimbnmaoaa.C3
open Go.RowKit

@[go_sem] theorem run_field_n (k n : Int) (w : World) : (Instr.field 39 (.agg #[.int .i64 k, .int .u64 n]) 1).run Try.prog w = .ok (.int .u64 n) w := by
  have h := run_underlying (P := Try.prog) (w := w) Try.underlying39
  have h2 := run_underlying (P := Try.prog) (w := w) Try.underlying25
  simp [Instr.field, h, h2, part, asAgg, isAgg]

/-- A call that answers a tick whose number is n. -/
def RetFn (w : World) (n : Int) (e : Ending) (w' : World) : Prop := ∃ k : Int, e = .returned (.agg #[.int .i64 k, .int .u64 n]) ∧ Below w.heap.size w w'

set_option maxRecDepth 100000 in
set_option maxHeartbeats 1000000 in
theorem found_any (A : Option Addr) (c : Nat) (l : List Tk) (q : Int) (w : World) (h : In w A c l) (ha : Asc l) (hlen : l.length ≤ 1000) :
    Calls Try.prog 106 #[.slice A l.length c, .agg #[.int .i64 q, .int .u64 0], .func (.func 91) #[] #[]] w (RetFn w (ofC l q)) := by
  have HB0 : Hid (Below w.heap.size w (((w.alloc (.cells #[.int .i64 q, .int .u64 0] 39)).alloc (.cells #[.int .i64 0, .int .u64 0] 39)).alloc (.cells #[.int .i64 0, .int .u64 0] 39))) := belAl (belAl (belAl (Below.refl _ _)))
  have HA := Lib.hid (h.later HB0.out)
  have HS := Lib.hid ha
  clear h ha
  go_enter Try.func106, Try.ntmps106
  go_wp2_with fail
  refine (search_any A c l q 0 _ HA.out HS.out hlen).mono ?_
  rintro e w4 ⟨m, p, rfl, hy, hn, hb2⟩
  have HB4 : Hid (Below w.heap.size w w4) := HB0.out.trans (hb2.mono HB0.out.size)
  have hq0 : w4.cell? ⟨w.heap.size + 1, 0, none⟩ = some (.int .i64 0) := (hb2.cell (p := ⟨w.heap.size + 1, 0, none⟩) (by simp)).trans (by go_simp)
  have hq1 : w4.cell? ⟨w.heap.size + 1, 1, none⟩ = some (.int .u64 0) := (hb2.cell (p := ⟨w.heap.size + 1, 1, none⟩) (by simp)).trans (by go_simp)
  have hp0 : w4.cell? ⟨w.heap.size + 1 + 1, 0, none⟩ = some (.int .i64 0) := (hb2.cell (p := ⟨w.heap.size + 1 + 1, 0, none⟩) (by simp)).trans (by go_simp)
  have hp1 : w4.cell? ⟨w.heap.size + 1 + 1, 1, none⟩ = some (.int .u64 0) := (hb2.cell (p := ⟨w.heap.size + 1 + 1, 1, none⟩) (by simp)).trans (by go_simp)
  have hf0 : w4.frozen? ⟨w.heap.size + 1, 0, none⟩ = false := (hb2.frozen (p := ⟨w.heap.size + 1, 0, none⟩) (by simp)).trans (by go_simp)
  have hf1 : w4.frozen? ⟨w.heap.size + 1, 1, none⟩ = false := (hb2.frozen (p := ⟨w.heap.size + 1, 1, none⟩) (by simp)).trans (by go_simp)
  have hs4 : w.heap.size + 1 < w4.heap.size := Nat.lt_of_lt_of_le (by simp) hb2.size
  cases p with
  | true =>
    obtain ⟨x, hx, he⟩ := hy rfl
    have HV : Hid (ofC l q = x.n) := by show ofC l q = x.n; rw [← he]; exact ofC_mem HS.out (List.mem_of_getElem? hx)
    have hm : m < l.length := (List.getElem?_eq_some_iff.1 hx).1
    have hin4 := HA.out.later hb2
    obtain ⟨b, off, rfl, hb, hc⟩ := hin4.lies.get hm
    obtain ⟨hc0, hc1⟩ := hc m x hx
    obtain ⟨xk, xn⟩ := x
    dsimp only at hc0 hc1 HV
    clear hx he hy hn hc hin4 hb2 HA HB0
    go_wp2_with fail
    refine bodyPost_ret (results_cellT rfl _ _ (w.heap.size + 1) (.int .i64 xk) (.int .u64 xn) rfl (by go_simp) (by go_simp)) rfl ?_
    exact ⟨xk, by rw [HV.out], (HB4.out.setCell (by simp) _).setCell (by simp) _⟩
  | false =>
    have HV : Hid (ofC l q = 0) := ofC_none (hn rfl)
    clear hy hn hb2 HA HB0
    go_wp2_with fail
    refine bodyPost_ret (results_cellT rfl _ _ (w.heap.size + 1) (.int .i64 0) (.int .u64 0) rfl (by go_simp) (by go_simp)) rfl ?_
    exact ⟨0, by rw [HV.out], (HB4.out.setCell (by simp) _).setCell (by simp) _⟩

set_option maxHeartbeats 400000 in
theorem Of_any (A : Option Addr) (c : Nat) (l : List Tk) (q : Int) (w : World) (h : In w A c l) (ha : Asc l) (hlen : l.length ≤ 1000) :
    Calls Try.prog 105 #[.slice A l.length c, .int .i64 q] w (RetV w (.int .u64 (ofC l q))) := by
  have HA := Lib.hid h
  have HS := Lib.hid ha
  clear h ha
  go_enter Try.func105, Try.ntmps105
  go_wp2_with fail
  refine (found_any A c l q w HA.out HS.out hlen).mono ?_
  rintro e w' ⟨k, rfl, hb⟩
  go_wp2_with fail
  go_ret
  exact ⟨rfl, hb⟩
end Go.Proofs.Ytcpfjjimbnmaoaa.C3
