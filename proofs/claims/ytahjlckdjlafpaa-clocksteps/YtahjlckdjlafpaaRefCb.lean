/- What the reference's IsClock does. No condition but that the ticks lie in memory. -/
import Derived.Test.YtahjlckdjlafpaaRefCa
namespace Go.Proofs.Ytahjlckdjlafpaa
open Go.RowKit

theorem isC_bad {l : List Tk} {i : Nat} {x : Tk} (hx : l[i]? = some x) (hb : bad x = true) : isC l = false := by
  unfold isC
  have : l.any bad = true := List.any_eq_true.2 ⟨x, List.mem_of_getElem? hx, hb⟩
  rw [this]; simp
theorem isC_fall {l : List Tk} {i : Nat} {x y : Tk} (hy : l[i]? = some y) (hx : l[i + 1]? = some x) (hb : x.k ≤ y.k) : isC l = false := by
  unfold isC
  have : ¬ Asc l := fun h => by
    obtain ⟨h1, e1⟩ := List.getElem?_eq_some_iff.1 hy
    obtain ⟨h2, e2⟩ := List.getElem?_eq_some_iff.1 hx
    have := List.pairwise_iff_getElem.1 h i (i + 1) h1 h2 (by omega)
    rw [e1, e2] at this
    omega
  rw [decide_eq_false this]; simp
theorem isC_end {l : List Tk} {i : Nat} (h1 : Asc (l.take i)) (h2 : (l.take i).any bad = false) (hi : l.length ≤ i) : isC l = decide (l.length ≤ 40) := by
  rw [List.take_of_length_le hi] at h1 h2
  unfold isC
  rw [decide_eq_true h1, h2]; simp
theorem any_bad_succ {l : List Tk} {i : Nat} {x : Tk} (h : (l.take i).any bad = false) (hx : l[i]? = some x) (hb : bad x = false) : (l.take (i + 1)).any bad = false := by
  obtain ⟨hi, he⟩ := List.getElem?_eq_some_iff.1 hx
  rw [List.take_succ_eq_append_getElem hi, List.any_append, h, he]
  simp [hb]
theorem asc_snoc {l : List Tk} {x : Tk} (h : Asc l) (hl : ∀ y ∈ l, y.k < x.k) : Asc (l ++ [x]) :=
  List.pairwise_append.2 ⟨h, List.pairwise_singleton _ _, fun y hy z hz => by rw [List.mem_singleton.1 hz]; exact hl y hy⟩
theorem asc_one {l : List Tk} {x : Tk} (hx : l[0]? = some x) : Asc (l.take 1) := by
  obtain ⟨hi, he⟩ := List.getElem?_eq_some_iff.1 hx
  rw [List.take_succ_eq_append_getElem hi]
  exact List.pairwise_singleton _ _
theorem asc_succ {l : List Tk} {i : Nat} {x y : Tk} (h : Asc (l.take (i + 1))) (hy : l[i]? = some y) (hx : l[i + 1]? = some x) (hb : y.k < x.k) : Asc (l.take (i + 1 + 1)) := by
  obtain ⟨h1, e1⟩ := List.getElem?_eq_some_iff.1 hy
  obtain ⟨h2, e2⟩ := List.getElem?_eq_some_iff.1 hx
  rw [List.take_succ_eq_append_getElem h2, e2]
  refine asc_snoc h fun z hz => ?_
  rw [List.take_succ_eq_append_getElem h1, e1] at hz h
  rcases List.mem_append.1 hz with h' | h'
  · exact Int.lt_trans ((List.pairwise_append.1 h).2.2 z h' y (by simp)) hb
  · rw [List.mem_singleton.1 h']; exact hb

set_option maxHeartbeats 1000000 in
theorem refIs_any (A : Option Addr) (c : Nat) (l : List Tk) (w : World) (h : In w A c l) :
    Calls Try.prog 7 #[.slice A l.length c] w (RetV w (.bool (isC l))) := by
  obtain ⟨hl, hcap, htop, -⟩ := h
  have hlm : l.length ≤ 9223372036854775807 := by unfold maxLen at htop; omega
  clear hcap htop
  go_enter Try.func7, Try.ntmps7
  go_wp2_with fail
  go_loopw [3] (fun iv wr => ∃ k : Nat, k ≤ l.length ∧ iv = .int .i64 k ∧ Hid (Asc (l.take k)) ∧ Hid ((l.take k).any bad = false) ∧ Below w.heap.size w wr) (fun iv _ => l.length - (intOf iv).toNat)
  case atStart => exact ⟨0, Nat.zero_le _, rfl, List.Pairwise.nil, by simp [Hid], Below.refl _ _⟩
  case round =>
    obtain ⟨k, hk, rfl, h1, h2, hbw⟩ := hrel
    by_cases hlt : k < l.length
    · obtain ⟨b, off, rfl, hb, hc⟩ := (hl.below hbw).get hlt
      obtain ⟨x, hx⟩ : ∃ x, l[k]? = some x := ⟨_, List.getElem?_eq_getElem hlt⟩
      obtain ⟨hc0, hc1⟩ := hc k x hx
      have HX := Lib.hid hx
      clear hx hl
      obtain ⟨xk, xn⟩ := x
      dsimp only at hc0 hc1
      have hki : (k : Int) < (l.length : Int) := by omega
      by_cases c1 : xk < 0
      · have HB : Hid (bad ⟨xk, xn⟩ = true) := by show bad _ = _; simp [bad, c1]
        clear hc
        go_wp2_with fail
        go_quiet (fail)
        go_wp2_with fail
        go_ret
        exact ⟨ret_bool (isC_bad HX.out HB.out).symm, below_drewN hbw _⟩
      · have d1 : decide (xk < 0) = false := decide_eq_false c1
        by_cases c2 : 1000000 < xk
        · have HB : Hid (bad ⟨xk, xn⟩ = true) := by show bad _ = _; simp [bad, c2]
          clear hc c1
          go_wp2_with fail
          go_quiet (fail)
          go_wp2_with fail
          go_ret
          exact ⟨ret_bool (isC_bad HX.out HB.out).symm, below_drewN hbw _⟩
        · have d2 : decide (1000000 < xk) = false := decide_eq_false c2
          by_cases c3 : xn = 0
          · have HB : Hid (bad ⟨xk, xn⟩ = true) := by show bad _ = _; simp [bad, c3]
            clear hc c1 c2
            subst c3
            go_wp2_with fail
            go_quiet (fail)
            go_wp2_with fail
            go_ret
            exact ⟨ret_bool (isC_bad HX.out HB.out).symm, below_drewN hbw _⟩
          · have HB : Hid (bad ⟨xk, xn⟩ = false) := by show bad _ = _; simp [bad, c1, c2, c3]
            have c3' : (xn == 0) = false := by simp [c3]
            clear c1 c2 c3
            by_cases hk0 : k = 0
            · subst hk0
              simp only [Nat.zero_mul, Nat.add_zero] at hc0 hc1
              clear hc
              go_wp2_with fail
              go_quiet (fail)
              go_wp2_with fail
              go_roundw
              case rel => exact ⟨1, by omega, by go_num, asc_one HX.out, any_bad_succ h2.out HX.out HB.out, below_drewN hbw _⟩
              case measure => simp [intOf]; omega
            · obtain ⟨j, hj⟩ : ∃ j, k = j + 1 := ⟨k - 1, by omega⟩
              have hkp : 0 < k := by omega
              obtain ⟨y, hy⟩ : ∃ y, l[j]? = some y := ⟨_, List.getElem?_eq_getElem (by omega)⟩
              obtain ⟨hd0, -⟩ := hc j y hy
              have HY := Lib.hid hy
              clear hc hy
              obtain ⟨yk, yn⟩ := y
              dsimp only at hd0
              have HJ := Lib.hid hj
              have s1 : IntKind.i64.wrap ((k : Int) - 1) = (k : Int) - 1 := IntWalk.i64_in _ (by omega)
              have s2 : 0 ≤ (k : Int) - 1 := by omega
              have s4 : (k : Int) - 1 < (l.length : Int) := by omega
              have s3 : ((k : Int) - 1).toNat = j := by omega
              clear hj hk0
              by_cases c4 : yk < xk
              · have HC := Lib.hid c4
                have d4 : decide (xk ≤ yk) = false := decide_eq_false (by omega)
                clear c4
                go_wp2_with fail
                go_quiet (fail)
                go_wp2_with fail
                go_roundw
                case rel =>
                  have hj := HJ.out
                  clear s1 s2 s3 s4
                  subst hj
                  exact ⟨j + 1 + 1, by omega, by go_num, asc_succ h1.out HY.out HX.out HC.out, any_bad_succ h2.out HX.out HB.out, below_drewN hbw _⟩
                case measure => simp [intOf]; omega
              · have HC : Hid (xk ≤ yk) := by show xk ≤ yk; omega
                have c4' : xk ≤ yk := HC.out
                clear c4
                go_wp2_with fail
                go_quiet (fail)
                go_wp2_with fail
                go_ret
                have hj := HJ.out
                clear s1 s2 s3 s4
                subst hj
                exact ⟨ret_bool (isC_fall HY.out HX.out HC.out).symm, below_drewN hbw _⟩
    · go_wp2_with fail
      go_ret
      refine ⟨ret_bool ?_, hbw⟩
      rw [isC_end h1.out h2.out (by omega)]
      exact decide_eq_decide.2 (by omega)
end Go.Proofs.Ytahjlckdjlafpaa
