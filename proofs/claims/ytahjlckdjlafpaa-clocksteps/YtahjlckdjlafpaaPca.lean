/- What cmp.Compare, clock.byWho, clock.wrong, clock.later, clock.rises do. No condition but that the ticks lie in memory. -/
import Derived.Test.YtahjlckdjlafpaaRefCe
namespace Go.Proofs.Ytahjlckdjlafpaa
open Go.RowKit

set_option maxHeartbeats 400000 in
theorem isNaN_any (x : Int) (w : World) : Calls Try.prog 33 #[.int .i64 x] w fun e w' => e = .returned (.bool false) ∧ w = w' := by
  go_enter Try.func33, Try.ntmps33
  go_wp2
  go_ret
  exact ⟨rfl, rfl⟩

def cmpI (x y : Int) : Int := if x < y then -1 else if y < x then 1 else 0
theorem cmpI_lt {x y : Int} (h : x < y) : cmpI x y = -1 := if_pos h
theorem cmpI_gt {x y : Int} (h : y < x) : cmpI x y = 1 := by unfold cmpI; rw [if_neg (by omega), if_pos h]
theorem cmpI_eq (x : Int) : cmpI x x = 0 := by unfold cmpI; rw [if_neg (by omega), if_neg (by omega)]

set_option maxHeartbeats 400000 in
theorem compare_any (x y : Int) (w : World) : Calls Try.prog 29 #[.int .i64 x, .int .i64 y] w fun e w' => e = .returned (.int .i64 (cmpI x y)) ∧ w = w' := by
  rcases Int.lt_trichotomy x y with h | h | h
  · rw [cmpI_lt h]
    go_enter Try.func29, Try.ntmps29
    go_wp2_with (go_at_call 33; refine (isNaN_any _ _).mono ?_; rintro e w' ⟨rfl, rfl⟩)
    go_ret
    exact ⟨rfl, rfl⟩
  · subst h
    rw [cmpI_eq]
    go_enter Try.func29, Try.ntmps29
    go_wp2_with (go_at_call 33; refine (isNaN_any _ _).mono ?_; rintro e w' ⟨rfl, rfl⟩)
    go_ret
    exact ⟨rfl, rfl⟩
  · rw [cmpI_gt h]
    have h1 : ¬ x < y := by omega
    go_enter Try.func29, Try.ntmps29
    go_wp2_with (go_at_call 33; refine (isNaN_any _ _).mono ?_; rintro e w' ⟨rfl, rfl⟩)
    go_ret
    exact ⟨rfl, rfl⟩

set_option maxHeartbeats 400000 in
theorem byWho_any (xk xn yk yn : Int) (w : World) : Calls Try.prog 19 #[.agg #[.int .i64 xk, .int .u64 xn], .agg #[.int .i64 yk, .int .u64 yn]] w (RetV w (.int .i64 (cmpI xk yk))) := by
  go_enter Try.func19, Try.ntmps19
  go_wp2_with (go_at_call 29; refine (compare_any _ _ _).mono ?_; rintro e w' ⟨rfl, rfl⟩)
  go_ret
  exact ⟨rfl, belAl (belAl (Below.refl _ _))⟩

set_option maxHeartbeats 400000 in
theorem wrong_any (xk xn : Int) (w : World) : Calls Try.prog 21 #[.agg #[.int .i64 xk, .int .u64 xn]] w (RetV w (.bool (bad ⟨xk, xn⟩))) := by
  obtain ⟨p, hp⟩ : ∃ p, bad ⟨xk, xn⟩ = p := ⟨_, rfl⟩
  rw [hp]
  unfold bad at hp
  dsimp only at hp
  by_cases c1 : xk < 0
  · simp [c1] at hp
    subst hp
    go_enter Try.func21, Try.ntmps21
    go_wp2_with fail
    go_ret
    exact ⟨rfl, allocB _ _⟩
  · have d1 : decide (xk < 0) = false := decide_eq_false c1
    by_cases c2 : 1000000 < xk
    · simp [c2] at hp
      subst hp
      go_enter Try.func21, Try.ntmps21
      go_wp2_with fail
      go_ret
      exact ⟨rfl, allocB _ _⟩
    · have d2 : decide (1000000 < xk) = false := decide_eq_false c2
      by_cases c3 : xn = 0
      · simp [c3] at hp
        subst hp
        subst c3
        go_enter Try.func21, Try.ntmps21
        go_wp2_with fail
        go_ret
        exact ⟨rfl, allocB _ _⟩
      · simp [c1, c2, c3] at hp
        subst hp
        have d3 : (xn == 0) = false := by simp [c3]
        go_enter Try.func21, Try.ntmps21
        go_wp2_with fail
        go_ret
        exact ⟨rfl, allocB _ _⟩

/-- A call that answers the tick t. -/
def RetK (w : World) (t : Tk) (e : Ending) (w' : World) : Prop := e = .returned (.agg #[.int .i64 t.k, .int .u64 t.n]) ∧ Below w.heap.size w w'

set_option maxHeartbeats 400000 in
theorem later_any (xk xn yk yn : Int) (w : World) : Calls Try.prog 26 #[.agg #[.int .i64 xk, .int .u64 xn], .agg #[.int .i64 yk, .int .u64 yn]] w (RetK w (laterC ⟨xk, xn⟩ ⟨yk, yn⟩)) := by
  by_cases h : xn < yn
  · have e : laterC ⟨xk, xn⟩ ⟨yk, yn⟩ = ⟨yk, yn⟩ := by unfold laterC; rw [if_pos h]
    rw [e]
    go_enter Try.func26, Try.ntmps26
    go_wp2_with fail
    refine bodyPost_ret (results_cellT rfl _ _ (w.heap.size + 1 + 1) (.int .i64 yk) (.int .u64 yn) rfl (by go_simp) (by go_simp)) rfl ?_
    exact ⟨rfl, belAl (belAl (belAl (Below.refl _ _)))⟩
  · have e : laterC ⟨xk, xn⟩ ⟨yk, yn⟩ = ⟨xk, xn⟩ := by unfold laterC; rw [if_neg h]
    rw [e]
    go_enter Try.func26, Try.ntmps26
    go_wp2_with fail
    refine bodyPost_ret (results_cellT rfl _ _ (w.heap.size + 1 + 1) (.int .i64 xk) (.int .u64 xn) rfl (by go_simp) (by go_simp)) rfl ?_
    exact ⟨rfl, belAl (belAl (belAl (Below.refl _ _)))⟩

theorem asc_fall {l : List Tk} {i : Nat} {x y : Tk} (hy : l[i]? = some y) (hx : l[i + 1]? = some x) (hb : x.k ≤ y.k) : decide (Asc l) = false := by
  refine decide_eq_false fun h => ?_
  obtain ⟨h1, e1⟩ := List.getElem?_eq_some_iff.1 hy
  obtain ⟨h2, e2⟩ := List.getElem?_eq_some_iff.1 hx
  have := List.pairwise_iff_getElem.1 h i (i + 1) h1 h2 (by omega)
  rw [e1, e2] at this
  omega
theorem asc_end {l : List Tk} {i : Nat} (h1 : Asc (l.take i)) (hi : l.length ≤ i) : decide (Asc l) = true := by
  rw [List.take_of_length_le hi] at h1
  exact decide_eq_true h1
theorem asc_take1 (l : List Tk) : Asc (l.take 1) := by
  cases l with
  | nil => exact List.Pairwise.nil
  | cons x l => exact List.pairwise_singleton _ _

set_option maxRecDepth 100000 in
set_option maxHeartbeats 400000 in
theorem rises_any (A : Option Addr) (c : Nat) (l : List Tk) (w : World) (h : In w A c l) :
    Calls Try.prog 18 #[.slice A l.length c, .func (.func 19) #[] #[]] w (RetV w (.bool (decide (Asc l)))) := by
  obtain ⟨hl, hcap, htop, -⟩ := h
  have hlm : l.length ≤ 9223372036854775807 := by unfold maxLen at htop; omega
  clear hcap htop
  go_enter Try.func18, Try.ntmps18
  go_wp2_with fail
  go_loopw [5] (fun iv wr => ∃ k : Nat, iv = .int .i64 ((k : Int) + 1) ∧ (k ≤ l.length) ∧ Hid (Asc (l.take (k + 1))) ∧ Below w.heap.size w wr) (fun iv _ => l.length + 1 - (intOf iv).toNat)
  case atStart => exact ⟨0, rfl, Nat.zero_le _, asc_take1 l, Below.refl _ _⟩
  case round =>
    obtain ⟨k, rfl, hk, h1, hbw⟩ := hrel
    by_cases hlt : k + 1 < l.length
    · obtain ⟨b, off, rfl, hb, hc⟩ := (hl.below hbw).get hlt
      obtain ⟨x, hx⟩ : ∃ x, l[k + 1]? = some x := ⟨_, List.getElem?_eq_getElem hlt⟩
      obtain ⟨y, hy⟩ : ∃ y, l[k]? = some y := ⟨_, List.getElem?_eq_getElem (by omega)⟩
      obtain ⟨hc0, hc1⟩ := hc (k + 1) x hx
      obtain ⟨hd0, hd1⟩ := hc k y hy
      have HX := Lib.hid hx
      have HY := Lib.hid hy
      clear hx hy hc hl
      obtain ⟨xk, xn⟩ := x
      obtain ⟨yk, yn⟩ := y
      dsimp only at hc0 hc1 hd0 hd1
      have hki : (k : Int) + 1 < (l.length : Int) := by omega
      have hki0 : (k : Int) < (l.length : Int) := by omega
      have HBW := Lib.hid hbw
      have s1 : IntKind.i64.wrap (k : Int) = (k : Int) := IntWalk.i64_in _ (by omega)
      have s2 : 0 ≤ (k : Int) + 1 := by omega
      have s3 : ((k : Int) + 1).toNat = k + 1 := by omega
      clear hbw
      go_wp2_with fail
      go_still_tail 10, (by kernel_rfl)
      change wpList _ _ _ _ _ wr.drew
      clear s1 s2 s3
      go_wp2_with fail
      refine (byWho_any yk yn xk xn _).mono ?_
      rintro e w4 ⟨rfl, hb4⟩
      have hbw4 : Below w.heap.size w w4 := (HBW.out.drew).trans (hb4.mono HBW.out.size)
      by_cases c4 : yk < xk
      · have HC := Lib.hid c4
        rw [cmpI_lt c4]
        clear c4
        go_wp2_with fail
        go_roundw
        case rel => exact ⟨k + 1, by go_num, by omega, asc_succ h1.out HY.out HX.out HC.out, hbw4⟩
        case measure => simp [intOf]; omega
      · have HC : Hid (xk ≤ yk) := by show xk ≤ yk; omega
        have c5 : 0 ≤ cmpI yk xk := by unfold cmpI; rw [if_neg c4]; split <;> omega
        generalize cmpI yk xk = q at *
        clear c4
        go_wp2_with fail
        go_ret
        exact ⟨ret_bool (asc_fall HY.out HX.out HC.out).symm, hbw4⟩
    · go_wp2_with fail
      go_ret
      exact ⟨ret_bool (asc_end h1.out (by omega)).symm, hbw⟩
end Go.Proofs.Ytahjlckdjlafpaa
