/- What slices.IndexFunc and slices.ContainsFunc do with clock.wrong; clock.Is, slices.Equal, clock.Same. No condition but that the ticks lie in memory. What slices.BinarySearchFunc does with clock.byWho; clock.found, clock.Of. No condition but that the ticks lie in memory and rise, at most 1000. What clock.found and clock.Of do. No condition but that the ticks lie in memory and rise, at most 1000. What clock.within and clock.Cmp do. No condition but that the ticks lie in memory and rise, at most 1000. What value.long, value.texts, value.written do, and slices.IndexFunc, slices.ContainsFunc with long. No condition but that the texts lie in memory. What value.blank and value.stripped do. No condition. What value.written, value.idle do, and slices.IndexFunc, slices.ContainsFunc with idle. No condition but that what is handed in lies in memory. -/
import Derived.Test.YtdbohojncbeajaaGreatMo05
import Derived.Deep.RegionHeld3
import Derived.Test.YtdbohojncbeajaaGreatMo08
namespace Go.Proofs.YtdbohojncbeajaaGreat.C3
open Go.RowKit

/-- A call that answers a place, not below 0 just if b. -/
def RetIx (w : World) (b : Bool) (e : Ending) (w' : World) : Prop := ∃ i : Int, e = .returned (.int .i64 i) ∧ decide (0 ≤ i) = b ∧ Below w.heap.size w w'

theorem any_succ {p : Tk → Bool} {l : List Tk} {k : Nat} {x : Tk} (h0 : (l.take k).any p = false) (hx : l[k]? = some x) (h : p x = false) : (l.take (k + 1)).any p = false := by
  obtain ⟨hi, he⟩ := List.getElem?_eq_some_iff.1 hx
  rw [List.take_succ_eq_append_getElem hi, List.any_append, h0, he]
  simp [h]
theorem any_end {p : Tk → Bool} {l : List Tk} {k : Nat} (h0 : (l.take k).any p = false) (h : l.length ≤ k) : l.any p = false := by rwa [List.take_of_length_le h] at h0
theorem any_yes {p : Tk → Bool} {l : List Tk} {k : Nat} {x : Tk} (hx : l[k]? = some x) (h : p x = true) : l.any p = true := List.any_eq_true.2 ⟨x, List.mem_of_getElem? hx, h⟩

set_option maxHeartbeats 400000 in
theorem indexWrong_any (A : Option Addr) (c : Nat) (l : List Tk) (w : World) (h : In w A c l) :
    Calls Tryz.prog 134 #[.slice A l.length c, .func (.func 127) #[] #[]] w (RetIx w (l.any bad)) := by
  obtain ⟨hl, hcap, htop, -⟩ := h
  have hlm : l.length ≤ 9223372036854775807 := by unfold maxLen at htop; omega
  clear hcap htop
  go_enter Tryz.func134, Tryz.ntmps134
  go_wp2_with fail
  go_loopw [8] (fun iv wr => ∃ k : Nat, k ≤ l.length ∧ iv = .int .i64 k ∧ Hid ((l.take k).any bad = false) ∧ Below w.heap.size w wr) (fun iv _ => l.length - (intOf iv).toNat)
  case atStart => exact ⟨0, Nat.zero_le _, rfl, by simp [Hid], Below.refl _ _⟩
  case round =>
    obtain ⟨k, hk, rfl, h0, hbw⟩ := hrel
    by_cases hlt : k < l.length
    · obtain ⟨b, off, rfl, hb, hc⟩ := (hl.below hbw).get hlt
      obtain ⟨x, hx⟩ : ∃ x, l[k]? = some x := ⟨_, List.getElem?_eq_getElem hlt⟩
      obtain ⟨hc0, hc1⟩ := hc k x hx
      have HX := Lib.hid hx
      clear hx hc hl
      obtain ⟨xk, xn⟩ := x
      dsimp only at hc0 hc1
      obtain ⟨q, hq⟩ : ∃ q, bad ⟨xk, xn⟩ = q := ⟨_, rfl⟩
      have HQ := Lib.hid hq
      clear hq
      go_wp2_with fail
      refine (wrong_any xk xn wr).mono ?_
      rintro e w' ⟨rfl, hb2⟩
      have hb3 : Below w.heap.size w w' := hbw.trans (hb2.mono hbw.size)
      rw [HQ.out]
      cases q with
      | true =>
        go_wp2_with fail
        go_ret
        exact ⟨_, rfl, (by rw [any_yes HX.out HQ.out]; exact decide_eq_true (by omega)), hb3⟩
      | false =>
        go_wp2_with fail
        go_roundw
        case rel => exact ⟨k + 1, by omega, by go_num, any_succ h0.out HX.out HQ.out, hb3⟩
        case measure => simp [intOf]; omega
    · go_wp2_with fail
      go_ret
      exact ⟨_, rfl, (by rw [any_end h0.out (by omega)]; rfl), hbw⟩

set_option maxHeartbeats 400000 in
theorem containsWrong_any (A : Option Addr) (c : Nat) (l : List Tk) (w : World) (h : In w A c l) :
    Calls Tryz.prog 126 #[.slice A l.length c, .func (.func 127) #[] #[]] w (RetV w (.bool (l.any bad))) := by
  have HA := Lib.hid h
  clear h
  go_enter Tryz.func126, Tryz.ntmps126
  go_wp2_with fail
  refine (indexWrong_any A c l w HA.out).mono ?_
  rintro e w' ⟨i, rfl, hi, hb⟩
  have HI := Lib.hid hi
  clear hi
  go_wp2_with fail
  go_ret
  exact ⟨ret_bool HI.out, hb⟩

set_option maxHeartbeats 400000 in
theorem Is_any (A : Option Addr) (c : Nat) (l : List Tk) (w : World) (h : In w A c l) :
    Calls Tryz.prog 110 #[.slice A l.length c] w (RetV w (.bool (isC l))) := by
  have HA := Lib.hid h
  have hlm : l.length ≤ 9223372036854775807 := by have := h.cap; have := h.top; unfold maxLen at this; omega
  clear h
  by_cases c1 : l.length ≤ 40
  · obtain ⟨p, hp⟩ : ∃ p, decide (Asc l) = p := ⟨_, rfl⟩
    obtain ⟨q, hq⟩ : ∃ q, l.any bad = q := ⟨_, rfl⟩
    have HR : Hid (isC l = (p && !q)) := by show isC l = _; unfold isC; rw [decide_eq_true c1, hp, hq]; rfl
    rw [HR.out]
    have HP := Lib.hid hp
    have HQ := Lib.hid hq
    clear hp hq
    go_enter Tryz.func110, Tryz.ntmps110
    go_wp2_with fail
    refine (rises_any A c l w HA.out).mono ?_
    rintro e w1 ⟨rfl, hb1⟩
    rw [HP.out]
    cases p with
    | false =>
      go_wp2_with fail
      go_ret
      exact ⟨rfl, hb1⟩
    | true =>
      go_wp2_with fail
      refine (containsWrong_any A c l w1 (HA.out.later hb1)).mono ?_
      rintro e w2 ⟨rfl, hb2⟩
      rw [HQ.out]
      go_wp2_with fail
      go_ret
      exact ⟨by simp, hb1.trans (hb2.mono hb1.size)⟩
  · have HR : Hid (isC l = false) := by show isC l = _; unfold isC; rw [decide_eq_false c1]; rfl
    rw [HR.out]
    have d1 : decide ((l.length : Int) ≤ 40) = false := decide_eq_false (by omega)
    go_enter Tryz.func110, Tryz.ntmps110
    go_wp2_with fail
    go_ret
    exact ⟨rfl, Below.refl _ _⟩

set_option maxHeartbeats 400000 in
theorem equal_any (A A' : Option Addr) (c c' : Nat) (l l' : List Tk) (w : World) (h : In w A c l) (h' : In w A' c' l') :
    Calls Tryz.prog 50 #[.slice A l.length c, .slice A' l'.length c'] w (RetV w (.bool (decide (l = l')))) := by
  obtain ⟨hl, hcap, htop, -⟩ := h
  obtain ⟨hl', -, -, -⟩ := h'
  have hlm : l.length ≤ 9223372036854775807 := by unfold maxLen at htop; omega
  clear hcap htop
  by_cases hlen : l.length = l'.length
  · have HLEN := Lib.hid hlen
    have hle : l'.length = l.length := hlen.symm
    clear hlen
    rw [hle]
    clear hle
    go_enter Tryz.func50, Tryz.ntmps50
    go_wp2_with fail
    go_loopw [13] (fun iv wr => ∃ k : Nat, k ≤ l.length ∧ iv = .int .i64 k ∧ Hid (l.take k = l'.take k) ∧ Below w.heap.size w wr) (fun iv _ => l.length - (intOf iv).toNat)
    case atStart => exact ⟨0, Nat.zero_le _, rfl, by simp [Hid], Below.refl _ _⟩
    case round =>
      obtain ⟨k, hk, rfl, h0, hbw⟩ := hrel
      by_cases hlt : k < l.length
      · have hlt' : k < l'.length := by have := HLEN.out; omega
        obtain ⟨b, off, rfl, hb, hc⟩ := (hl.below hbw).get hlt
        obtain ⟨x, hx⟩ : ∃ x, l[k]? = some x := ⟨_, List.getElem?_eq_getElem hlt⟩
        obtain ⟨hc0, hc1⟩ := hc k x hx
        have HX := Lib.hid hx
        obtain ⟨b', off', rfl, hb', hc'⟩ := (hl'.below hbw).get hlt'
        obtain ⟨y, hy⟩ : ∃ y, l'[k]? = some y := ⟨_, List.getElem?_eq_getElem hlt'⟩
        obtain ⟨hd0, hd1⟩ := hc' k y hy
        have HY := Lib.hid hy
        clear hx hc hl hy hc' hl'
        obtain ⟨xk, xn⟩ := x
        obtain ⟨yk, yn⟩ := y
        dsimp only at hc0 hc1 hd0 hd1
        have hki : (k : Int) < (l.length : Int) := by omega
        by_cases he : xk = yk ∧ xn = yn
        · obtain ⟨rfl, rfl⟩ := he
          go_wp2_with fail
          go_quiet (fail)
          go_wp2_with fail
          go_roundw
          case rel => exact ⟨k + 1, by omega, by go_num, take_eq_succ h0.out HX.out HY.out, below_drewN hbw _⟩
          case measure => simp [intOf]; omega
        · have HE := Lib.hid he
          have HNE : Hid (Tk.mk xk xn ≠ Tk.mk yk yn) := by intro e; cases e; exact HE.out ⟨rfl, rfl⟩
          by_cases hk1 : xk = yk
          · have hn1 : ¬ xn = yn := fun e => he ⟨hk1, e⟩
            have hk2 : (xk == yk) = true := by simp [hk1]
            have hn2 : (xn == yn) = false := by simp [hn1]
            clear he hk1 hn1
            go_wp2_with fail
            go_quiet (fail)
            go_wp2_with fail
            go_ret
            exact ⟨ret_bool (ne_at HX.out HY.out HNE.out).symm, below_drewN hbw _⟩
          · have hk2 : (xk == yk) = false := by simp [hk1]
            clear he hk1
            go_wp2_with fail
            go_quiet (fail)
            go_wp2_with fail
            go_ret
            exact ⟨ret_bool (ne_at HX.out HY.out HNE.out).symm, below_drewN hbw _⟩
      · go_wp2_with fail
        go_ret
        exact ⟨ret_bool (eq_all h0.out (by omega) (by have := HLEN.out; omega)).symm, hbw⟩
  · rw [ne_len hlen]
    have hne : ¬ ((l.length : Int) = l'.length) := by omega
    clear hlen
    go_enter Tryz.func50, Tryz.ntmps50
    go_wp2_with fail
    go_ret
    exact ⟨rfl, Below.refl _ _⟩

set_option maxHeartbeats 400000 in
theorem Same_any (A A' : Option Addr) (c c' : Nat) (l l' : List Tk) (w : World) (h : In w A c l) (h' : In w A' c' l') :
    Calls Tryz.prog 37 #[.slice A l.length c, .slice A' l'.length c'] w (RetV w (.bool (decide (l = l')))) := by
  have HE := Lib.hid (equal_any A A' c c' l l' w h h')
  clear h h'
  go_enter Tryz.func37, Tryz.ntmps37
  go_wp2_with fail
  refine HE.out.mono ?_
  rintro e w' ⟨rfl, hb⟩
  go_wp2_with fail
  go_ret
  exact ⟨rfl, hb⟩
end Go.Proofs.YtdbohojncbeajaaGreat.C3

namespace Go.Proofs.YtdbohojncbeajaaGreat.C3
open Go.RowKit

theorem take_mono {xs : List Tk} {q : Int} {m : Nat} {y : Tk} (h : Asc xs) (hy : xs[m]? = some y) (hlt : y.k < q) : ∀ x ∈ xs.take (m + 1), x.k < q := by
  intro x hx
  obtain ⟨hm, he⟩ := List.getElem?_eq_some_iff.1 hy
  obtain ⟨i, hi, rfl⟩ := List.mem_iff_getElem.1 hx
  simp only [List.getElem_take]
  have hi' : i < m + 1 := by simp at hi; omega
  rcases Nat.lt_or_ge i m with h1 | h1
  · have := List.pairwise_iff_getElem.1 h i m (by omega) hm h1
    rw [he] at this
    exact Int.lt_trans this hlt
  · have : i = m := by omega
    subst this
    rw [he]; exact hlt

theorem drop_mono {xs : List Tk} {q : Int} {m : Nat} {y : Tk} (h : Asc xs) (hy : xs[m]? = some y) (hge : q ≤ y.k) : ∀ x ∈ xs.drop m, q ≤ x.k := by
  intro x hx
  obtain ⟨hm, he⟩ := List.getElem?_eq_some_iff.1 hy
  rw [List.drop_eq_getElem_cons hm, he] at hx
  rcases List.mem_cons.1 hx with e | e
  · rw [e]; exact hge
  · have hp : Asc (xs.drop m) := List.Pairwise.drop h
    rw [List.drop_eq_getElem_cons hm, he] at hp
    have := (List.pairwise_cons.1 hp).1 x e
    omega

theorem found_no {xs : List Tk} {q : Int} {m : Nat} (h : Asc xs) (h1 : ∀ x ∈ xs.take m, x.k < q) (h2 : ∀ y, xs[m]? = some y → q < y.k) : ∀ x ∈ xs, x.k ≠ q := by
  intro s hs e
  rw [← List.take_append_drop m xs] at hs
  rcases List.mem_append.1 hs with k | k
  · have := h1 s k
    omega
  · cases hx : xs[m]? with
    | none =>
      rw [List.getElem?_eq_none_iff] at hx
      rw [List.drop_eq_nil_of_le hx] at k
      cases k
    | some y =>
      have hlt := h2 y hx
      have := drop_mono (q := y.k) h hx (Int.le_refl _) s k
      omega

/-- A call that answers a place and whether it is there. -/
def RetPos (l : List Tk) (q : Int) (w : World) (e : Ending) (w' : World) : Prop :=
  ∃ (m : Nat) (b : Bool), e = .returned (.tuple #[.int .i64 m, .bool b]) ∧ (b = true → ∃ x, l[m]? = some x ∧ x.k = q) ∧ (b = false → ∀ x ∈ l, x.k ≠ q) ∧ Below w.heap.size w w'

set_option maxRecDepth 100000 in
set_option maxHeartbeats 1000000 in
theorem search_any (A : Option Addr) (c : Nat) (l : List Tk) (q tn : Int) (w : World) (h : In w A c l) (ha : Asc l) (hlen : l.length ≤ 1000) :
    Calls Tryz.prog 136 #[.slice A l.length c, .agg #[.int .i64 q, .int .u64 tn], .func (.func 95) #[] #[]] w (RetPos l q w) := by
  obtain ⟨hl, -, -, -⟩ := h
  have HS := Lib.hid ha
  clear ha
  go_enter Tryz.func136, Tryz.ntmps136
  go_wp2_with fail
  go_loopw [9, 10] (fun i j wr => ∃ lo hi : Nat, lo ≤ hi ∧ hi ≤ l.length ∧ i = .int .i64 lo ∧ j = .int .i64 hi ∧ Hid (∀ x ∈ l.take lo, x.k < q) ∧ Hid (∀ x ∈ l.drop hi, q ≤ x.k) ∧ Below w.heap.size w wr ∧
    wr.cell? ⟨w.heap.size, 0, none⟩ = some (.int .i64 q) ∧ wr.cell? ⟨w.heap.size, 1, none⟩ = some (.int .u64 tn) ∧ w.heap.size < wr.heap.size) (fun i j _ => (intOf j).toNat - (intOf i).toNat)
  case atStart => exact ⟨0, l.length, Nat.zero_le _, Nat.le_refl _, rfl, rfl, by simp [Hid], by simp [Hid], allocB _ _, by simp, by simp, by simp⟩
  case round =>
    obtain ⟨lo, hi, hlh, hin, rfl, rfl, h1, h2, hbw, hx0, hx1, hsz⟩ := hrel
    by_cases hlt : lo < hi
    · have hmid : (lo + hi) / 2 < l.length := by omega
      obtain ⟨b, off, rfl, hb, hc⟩ := (hl.below hbw).get hmid
      obtain ⟨y, hy⟩ : ∃ y, l[(lo + hi) / 2]? = some y := ⟨_, List.getElem?_eq_getElem hmid⟩
      obtain ⟨hc0, hc1⟩ := hc _ y hy
      have HY := Lib.hid hy
      clear hy hc hl
      obtain ⟨yk, yn⟩ := y
      dsimp only at hc0 hc1
      have hmI : ((lo : Int) + (hi : Int)) / 2 < (l.length : Int) := by omega
      have hmN : (((lo : Int) + (hi : Int)) / 2).toNat = (lo + hi) / 2 := by omega
      have hm0 : 0 ≤ ((lo : Int) + (hi : Int)) / 2 := by omega
      have hmE : ((lo : Int) + (hi : Int)) / 2 = (((lo + hi) / 2 : Nat) : Int) := by omega
      have HME := Lib.hid hmE
      have HBW := Lib.hid hbw
      clear hmE hbw
      go_wp2_with fail
      go_still_tail 6, (by kernel_rfl)
      change wpList _ _ _ _ _ wr.drew
      clear hmI hmN hm0
      go_wp2_with fail
      refine (byWho_any yk yn q tn _).mono ?_
      rintro e w4 ⟨rfl, hb4⟩
      have hbw4 : Below w.heap.size w w4 := (HBW.out.drew).trans (hb4.mono HBW.out.size)
      have hy0 : w4.cell? ⟨w.heap.size, 0, none⟩ = some (.int .i64 q) := (hb4.cell (p := ⟨w.heap.size, 0, none⟩) hsz).trans hx0
      have hy1 : w4.cell? ⟨w.heap.size, 1, none⟩ = some (.int .u64 tn) := (hb4.cell (p := ⟨w.heap.size, 1, none⟩) hsz).trans hx1
      have hsz4 : w.heap.size < w4.heap.size := Nat.lt_of_lt_of_le hsz hb4.size
      clear hb4 hx0 hx1 hsz hc0 hc1
      rw [HME.out]
      by_cases c4 : yk < q
      · have HC := Lib.hid c4
        rw [cmpI_lt c4]
        clear c4
        go_wp2_with fail
        go_roundw
        case rel => exact ⟨(lo + hi) / 2 + 1, hi, by omega, hin, by go_num, rfl, take_mono HS.out HY.out HC.out, h2, hbw4, hy0, hy1, hsz4⟩
        case measure => simp [intOf]; omega
      · have HC : Hid (q ≤ yk) := by show q ≤ yk; omega
        have c5 : 0 ≤ cmpI yk q := by unfold cmpI; rw [if_neg c4]; split <;> omega
        generalize cmpI yk q = z at *
        clear c4
        go_wp2_with fail
        go_roundw
        case rel => exact ⟨lo, (lo + hi) / 2, by omega, by omega, rfl, by go_num, h1, drop_mono HS.out HY.out HC.out, hbw4, hy0, hy1, hsz4⟩
        case measure => simp [intOf]; omega
    · obtain rfl : lo = hi := by omega
      by_cases hmid : lo < l.length
      · obtain ⟨b, off, rfl, hb, hc⟩ := (hl.below hbw).get hmid
        obtain ⟨y, hy⟩ : ∃ y, l[lo]? = some y := ⟨_, List.getElem?_eq_getElem hmid⟩
        obtain ⟨hc0, hc1⟩ := hc _ y hy
        have HY := Lib.hid hy
        have HM : Hid (q ≤ y.k) := h2.out y (by rw [drop_at hy]; simp)
        clear hy hc hl
        obtain ⟨yk, yn⟩ := y
        dsimp only at hc0 hc1 HM
        have hli : (lo : Int) < (l.length : Int) := by omega
        have hbb : b < wr.heap.size := Nat.lt_of_lt_of_le hb hbw.size
        have HBW : Hid (Below w.heap.size w wr.drew) := hbw.drew
        clear hbw
        by_cases c4 : yk = q
        · have HC := Lib.hid c4
          have HZ : Hid (cmpI yk q = 0) := by show cmpI yk q = 0; rw [c4, cmpI_eq]
          clear c4
          go_wp2_with fail
          go_region_held3 (fun w' => w'.cell? ⟨b, off + lo * 2, none⟩ = some (.int .i64 yk) ∧ w'.cell? ⟨b, off + lo * 2 + 1, none⟩ = some (.int .u64 yn) ∧ w'.cell? ⟨w.heap.size, 0, none⟩ = some (.int .i64 q) ∧ w'.cell? ⟨w.heap.size, 1, none⟩ = some (.int .u64 tn))
            (first
              | exact ⟨hc0, hc1, hx0, hx1⟩)
            (first
              | (go_at_call 95; refine (byWho_any yk yn q tn _).mono ?_; rintro e w4 ⟨rfl, hb4⟩; (rw [HZ.out]; replace hc0 := (hb4.cell (p := ⟨b, off + lo * 2, none⟩) hbb).trans hc0; replace hc1 := (hb4.cell (p := ⟨b, off + lo * 2 + 1, none⟩) hbb).trans hc1; replace hx0 := (hb4.cell (p := ⟨w.heap.size, 0, none⟩) hsz).trans hx0; replace hx1 := (hb4.cell (p := ⟨w.heap.size, 1, none⟩) hsz).trans hx1; replace HBW : Hid (Below w.heap.size w w4) := HBW.out.trans (hb4.mono HBW.out.size); clear hb4)))
          go_wp2_with fail
          go_ret2
          exact ⟨lo, true, rfl, fun _ => ⟨_, HY.out, HC.out⟩, (fun h => by cases h), HBW.out⟩
        · have HC := Lib.hid c4
          have HZ : Hid (cmpI yk q = 1) := cmpI_gt (by have := HM.out; omega)
          clear c4
          go_wp2_with fail
          go_region_held3 (fun w' => w'.cell? ⟨b, off + lo * 2, none⟩ = some (.int .i64 yk) ∧ w'.cell? ⟨b, off + lo * 2 + 1, none⟩ = some (.int .u64 yn) ∧ w'.cell? ⟨w.heap.size, 0, none⟩ = some (.int .i64 q) ∧ w'.cell? ⟨w.heap.size, 1, none⟩ = some (.int .u64 tn))
            (first
              | exact ⟨hc0, hc1, hx0, hx1⟩)
            (first
              | (go_at_call 95; refine (byWho_any yk yn q tn _).mono ?_; rintro e w4 ⟨rfl, hb4⟩; (rw [HZ.out]; replace hc0 := (hb4.cell (p := ⟨b, off + lo * 2, none⟩) hbb).trans hc0; replace hc1 := (hb4.cell (p := ⟨b, off + lo * 2 + 1, none⟩) hbb).trans hc1; replace hx0 := (hb4.cell (p := ⟨w.heap.size, 0, none⟩) hsz).trans hx0; replace hx1 := (hb4.cell (p := ⟨w.heap.size, 1, none⟩) hsz).trans hx1; replace HBW : Hid (Below w.heap.size w w4) := HBW.out.trans (hb4.mono HBW.out.size); clear hb4)))
          go_wp2_with fail
          go_ret2
          refine ⟨lo, false, rfl, (fun h => by cases h), fun _ => found_no HS.out h1.out fun z hz => ?_, HBW.out⟩
          have e := HY.out
          rw [hz] at e
          cases e
          have := HM.out
          have := HC.out
          show q < yk
          omega
      · have d1 : decide ((lo : Int) < (l.length : Int)) = false := decide_eq_false (by omega)
        go_wp2_with fail
        go_quiet (fail)
        go_wp2_with fail
        go_ret2
        exact ⟨lo, false, rfl, (fun h => by cases h), fun _ => found_no HS.out h1.out fun z hz => absurd (List.getElem?_eq_some_iff.1 hz).1 hmid, below_drewN hbw _⟩
end Go.Proofs.YtdbohojncbeajaaGreat.C3

namespace Go.Proofs.YtdbohojncbeajaaGreat.C3
open Go.RowKit

@[go_sem] theorem run_field_n (k n : Int) (w : World) : (Instr.field 60 (.agg #[.int .i64 k, .int .u64 n]) 1).run Tryz.prog w = .ok (.int .u64 n) w := by
  have h := run_underlying (P := Tryz.prog) (w := w) Tryz.underlying60
  have h2 := run_underlying (P := Tryz.prog) (w := w) Tryz.underlying24
  simp [Instr.field, h, h2, part, asAgg, isAgg]

/-- A call that answers a tick whose number is n. -/
def RetFn (w : World) (n : Int) (e : Ending) (w' : World) : Prop := ∃ k : Int, e = .returned (.agg #[.int .i64 k, .int .u64 n]) ∧ Below w.heap.size w w'

set_option maxRecDepth 100000 in
set_option maxHeartbeats 1000000 in
theorem found_any (A : Option Addr) (c : Nat) (l : List Tk) (q : Int) (w : World) (h : In w A c l) (ha : Asc l) (hlen : l.length ≤ 1000) :
    Calls Tryz.prog 135 #[.slice A l.length c, .agg #[.int .i64 q, .int .u64 0], .func (.func 95) #[] #[]] w (RetFn w (ofC l q)) := by
  have HB0 : Hid (Below w.heap.size w (((w.alloc (.cells #[.int .i64 q, .int .u64 0] 60)).alloc (.cells #[.int .i64 0, .int .u64 0] 60)).alloc (.cells #[.int .i64 0, .int .u64 0] 60))) := belAl (belAl (belAl (Below.refl _ _)))
  have HA := Lib.hid (h.later HB0.out)
  have HS := Lib.hid ha
  clear h ha
  go_enter Tryz.func135, Tryz.ntmps135
  go_wp2_with fail
  refine (search_any A c l q 0 _ HA.out HS.out hlen).mono ?_
  rintro e w4 ⟨m, p, rfl, hy, hn, hb2⟩
  have HB4 : Hid (Below w.heap.size w w4) := HB0.out.trans (hb2.mono HB0.out.size)
  have hq0 : w4.cell? ⟨w.heap.size + 1, 0, none⟩ = some (.int .i64 0) := (hb2.cell (p := ⟨w.heap.size + 1, 0, none⟩) (by simp)).trans (by go_simp)
  have hq1 : w4.cell? ⟨w.heap.size + 1, 1, none⟩ = some (.int .u64 0) := (hb2.cell (p := ⟨w.heap.size + 1, 1, none⟩) (by simp)).trans (by go_simp)
  have hp0 : w4.cell? ⟨w.heap.size + 1 + 1, 0, none⟩ = some (.int .i64 0) := (hb2.cell (p := ⟨w.heap.size + 1 + 1, 0, none⟩) (by simp)).trans (by go_simp)
  have hp1 : w4.cell? ⟨w.heap.size + 1 + 1, 1, none⟩ = some (.int .u64 0) := (hb2.cell (p := ⟨w.heap.size + 1 + 1, 1, none⟩) (by simp)).trans (by go_simp)
  have hf0 : w4.frozen? ⟨w.heap.size + 1, 0, none⟩ = false := (hb2.frozen (p := ⟨w.heap.size + 1, 0, none⟩) (by simp)).trans (by go_simp)
  have hf1 : w4.frozen? ⟨w.heap.size + 1, 1, none⟩ = false := (hb2.frozen (p := ⟨w.heap.size + 1, 1, none⟩) (by simp)).trans (by go_simp)
  have hs4 : w.heap.size + 1 < w4.heap.size := Nat.lt_of_lt_of_le (by simp) hb2.size
  cases p with
  | true =>
    obtain ⟨x, hx, he⟩ := hy rfl
    have HV : Hid (ofC l q = x.n) := by show ofC l q = x.n; rw [← he]; exact ofC_mem HS.out (List.mem_of_getElem? hx)
    have hm : m < l.length := (List.getElem?_eq_some_iff.1 hx).1
    have hin4 := HA.out.later hb2
    obtain ⟨b, off, rfl, hb, hc⟩ := hin4.lies.get hm
    obtain ⟨hc0, hc1⟩ := hc m x hx
    obtain ⟨xk, xn⟩ := x
    dsimp only at hc0 hc1 HV
    clear hx he hy hn hc hin4 hb2 HA HB0
    go_wp2_with fail
    refine bodyPost_ret (results_cellT rfl _ _ (w.heap.size + 1) (.int .i64 xk) (.int .u64 xn) rfl (by go_simp) (by go_simp)) rfl ?_
    exact ⟨xk, by rw [HV.out], (HB4.out.setCell (by simp) _).setCell (by simp) _⟩
  | false =>
    have HV : Hid (ofC l q = 0) := ofC_none (hn rfl)
    clear hy hn hb2 HA HB0
    go_wp2_with fail
    refine bodyPost_ret (results_cellT rfl _ _ (w.heap.size + 1) (.int .i64 0) (.int .u64 0) rfl (by go_simp) (by go_simp)) rfl ?_
    exact ⟨0, by rw [HV.out], (HB4.out.setCell (by simp) _).setCell (by simp) _⟩

set_option maxHeartbeats 400000 in
theorem Of_any (A : Option Addr) (c : Nat) (l : List Tk) (q : Int) (w : World) (h : In w A c l) (ha : Asc l) (hlen : l.length ≤ 1000) :
    Calls Tryz.prog 133 #[.slice A l.length c, .int .i64 q] w (RetV w (.int .u64 (ofC l q))) := by
  have HA := Lib.hid h
  have HS := Lib.hid ha
  clear h ha
  go_enter Tryz.func133, Tryz.ntmps133
  go_wp2_with fail
  refine (found_any A c l q w HA.out HS.out hlen).mono ?_
  rintro e w' ⟨k, rfl, hb⟩
  go_wp2_with fail
  go_ret
  exact ⟨rfl, hb⟩
end Go.Proofs.YtdbohojncbeajaaGreat.C3

namespace Go.Proofs.YtdbohojncbeajaaGreat.C3
open Go.RowKit

set_option maxHeartbeats 400000 in
theorem ahead_any (B : Nat) (A : Option Addr) (c : Nat) (l : List Tk) (xk xn : Int) (w : World) (hB : B < w.heap.size) (hc : w.cell? ⟨B, 0, none⟩ = some (.slice A l.length c)) (h : In w A c l) (ha : Asc l) (hlen : l.length ≤ 1000) :
    Calls Tryz.prog 132 #[.agg #[.int .i64 xk, .int .u64 xn], .pointer (some ⟨B, 0, none⟩)] w (RetV w (.bool (decide (ofC l xk < xn)))) := by
  have HB0 : Hid (Below w.heap.size w (w.alloc (.cells #[.int .i64 xk, .int .u64 xn] 60)).drew) := (allocB _ _).drew
  have HA := Lib.hid (h.later HB0.out)
  have HS := Lib.hid ha
  clear h ha
  go_enter Tryz.func132, Tryz.ntmps132
  go_wp2_with fail
  have e0 : (w.alloc (.cells #[.int .i64 xk, .int .u64 xn] 60)).cell? ⟨w.heap.size, 0, none⟩ = some (.int .i64 xk) := by simp
  have e1 : (w.alloc (.cells #[.int .i64 xk, .int .u64 xn] 60)).cell? ⟨w.heap.size, 1, none⟩ = some (.int .u64 xn) := by simp
  have e2 : (w.alloc (.cells #[.int .i64 xk, .int .u64 xn] 60)).cell? ⟨B, 0, none⟩ = some (.slice A l.length c) := ((allocB w _).cell (p := ⟨B, 0, none⟩) hB).trans hc
  generalize (w.alloc (.cells #[.int .i64 xk, .int .u64 xn] 60)) = W0 at *
  have hB2 : B < W0.heap.size := World.block_lt_of_cell? W0 _ e2
  have hs2 : w.heap.size < W0.heap.size := World.block_lt_of_cell? W0 _ e0
  obtain ⟨z, hz⟩ : ∃ z, ofC l xk = z := ⟨_, rfl⟩
  have HZ := Lib.hid hz
  clear hB hc hz
  go_region_held3 (fun w' => w'.cell? ⟨w.heap.size, 0, none⟩ = some (.int .i64 xk) ∧ w'.cell? ⟨w.heap.size, 1, none⟩ = some (.int .u64 xn) ∧ w'.cell? ⟨B, 0, none⟩ = some (.slice A l.length c))
    (first
      | exact ⟨e0, e1, e2⟩)
    (first
      | (go_at_call 133; refine (Of_any A c l xk _ HA.out HS.out hlen).mono ?_; rintro e w4 ⟨rfl, hb4⟩; (rw [HZ.out]; replace e0 := (hb4.cell (p := ⟨w.heap.size, 0, none⟩) hs2).trans e0; replace e1 := (hb4.cell (p := ⟨w.heap.size, 1, none⟩) hs2).trans e1; replace e2 := (hb4.cell (p := ⟨B, 0, none⟩) hB2).trans e2; replace HB0 : Hid (Below w.heap.size w w4) := HB0.out.trans (hb4.mono HB0.out.size); clear hb4)))
  go_wp2_with fail
  go_ret
  exact ⟨(by rw [HZ.out]; rfl), HB0.out⟩

def aheadC (l' : List Tk) (t : Tk) : Bool := decide (ofC l' t.k < t.n)

set_option maxHeartbeats 400000 in
theorem indexAhead_any (B : Nat) (A A' : Option Addr) (c c' : Nat) (l l' : List Tk) (w : World) (h : In w A c l) (h' : In w A' c' l') (hB : B < w.heap.size) (hcB : w.cell? ⟨B, 0, none⟩ = some (.slice A' l'.length c')) (ha : Asc l') (hlen : l'.length ≤ 1000) :
    Calls Tryz.prog 134 #[.slice A l.length c, .func (.func 132) #[] #[.pointer (some ⟨B, 0, none⟩)]] w (RetIx w (l.any (aheadC l'))) := by
  obtain ⟨hl, hcap, htop, -⟩ := h
  have hlm : l.length ≤ 9223372036854775807 := by unfold maxLen at htop; omega
  have HA := Lib.hid h'
  have HS := Lib.hid ha
  have HCB := Lib.hid hcB
  have HB := Lib.hid hB
  clear hcap htop h' ha hcB hB
  go_enter Tryz.func134, Tryz.ntmps134
  go_wp2_with fail
  go_loopw [8] (fun iv wr => ∃ k : Nat, k ≤ l.length ∧ iv = .int .i64 k ∧ Hid ((l.take k).any (aheadC l') = false) ∧ Below w.heap.size w wr) (fun iv _ => l.length - (intOf iv).toNat)
  case atStart => exact ⟨0, Nat.zero_le _, rfl, by simp [Hid], Below.refl _ _⟩
  case round =>
    obtain ⟨k, hk, rfl, h0, hbw⟩ := hrel
    by_cases hlt : k < l.length
    · obtain ⟨b, off, rfl, hb, hc⟩ := (hl.below hbw).get hlt
      obtain ⟨x, hx⟩ : ∃ x, l[k]? = some x := ⟨_, List.getElem?_eq_getElem hlt⟩
      obtain ⟨hc0, hc1⟩ := hc k x hx
      have HX := Lib.hid hx
      clear hx hc hl
      obtain ⟨xk, xn⟩ := x
      dsimp only at hc0 hc1
      obtain ⟨q, hq⟩ : ∃ q, aheadC l' ⟨xk, xn⟩ = q := ⟨_, rfl⟩
      have HQ := Lib.hid hq
      have HQ2 : Hid (decide (ofC l' xk < xn) = q) := hq
      clear hq
      go_wp2_with fail
      refine (ahead_any B A' c' l' xk xn wr (Nat.lt_of_lt_of_le HB.out hbw.size) ((hbw.cell (p := ⟨B, 0, none⟩) HB.out).trans HCB.out) (HA.out.later hbw) HS.out hlen).mono ?_
      rintro e w' ⟨rfl, hb2⟩
      have hb3 : Below w.heap.size w w' := hbw.trans (hb2.mono hbw.size)
      rw [HQ2.out]
      cases q with
      | true =>
        go_wp2_with fail
        go_ret
        exact ⟨_, rfl, (by rw [any_yes HX.out HQ.out]; exact decide_eq_true (by omega)), hb3⟩
      | false =>
        go_wp2_with fail
        go_roundw
        case rel => exact ⟨k + 1, by omega, by go_num, any_succ h0.out HX.out HQ.out, hb3⟩
        case measure => simp [intOf]; omega
    · go_wp2_with fail
      go_ret
      exact ⟨_, rfl, (by rw [any_end h0.out (by omega)]; rfl), hbw⟩

set_option maxHeartbeats 400000 in
theorem containsAhead_any (B : Nat) (A A' : Option Addr) (c c' : Nat) (l l' : List Tk) (w : World) (h : In w A c l) (h' : In w A' c' l') (hB : B < w.heap.size) (hcB : w.cell? ⟨B, 0, none⟩ = some (.slice A' l'.length c')) (ha : Asc l') (hlen : l'.length ≤ 1000) :
    Calls Tryz.prog 126 #[.slice A l.length c, .func (.func 132) #[] #[.pointer (some ⟨B, 0, none⟩)]] w (RetV w (.bool (l.any (aheadC l')))) := by
  have HI0 := Lib.hid (indexAhead_any B A A' c c' l l' w h h' hB hcB ha hlen)
  clear h h' hB hcB ha
  go_enter Tryz.func126, Tryz.ntmps126
  go_wp2_with fail
  refine HI0.out.mono ?_
  rintro e w' ⟨i, rfl, hi, hb⟩
  have HI := Lib.hid hi
  clear hi
  go_wp2_with fail
  go_ret
  exact ⟨ret_bool HI.out, hb⟩

theorem under_any (l l' : List Tk) : (!l.any (aheadC l')) = underC l l' := by
  unfold underC
  induction l with
  | nil => rfl
  | cons x l ih =>
    rw [List.any_cons, List.all_cons, Bool.not_or, ih]
    congr 1
    unfold aheadC
    by_cases h : ofC l' x.k < x.n
    · rw [decide_eq_true h, decide_eq_false (by omega)]; rfl
    · rw [decide_eq_false h, decide_eq_true (by omega)]; rfl

set_option maxHeartbeats 400000 in
theorem within_any (A A' : Option Addr) (c c' : Nat) (l l' : List Tk) (w : World) (h : In w A c l) (h' : In w A' c' l') (ha : Asc l') (hlen : l'.length ≤ 1000) :
    Calls Tryz.prog 121 #[.slice A l.length c, .slice A' l'.length c'] w (RetV w (.bool (underC l l'))) := by
  have HB0 : Hid (Below w.heap.size w (w.alloc (.cells #[.slice A' l'.length c'] 44))) := allocB _ _
  have HC0 := Lib.hid (containsAhead_any w.heap.size A A' c c' l l' _ (h.later HB0.out) (h'.later HB0.out) (by simp) (by simp) ha hlen)
  clear h h' ha
  go_enter Tryz.func121, Tryz.ntmps121
  go_wp2_with fail
  refine HC0.out.mono ?_
  rintro e w' ⟨rfl, hb⟩
  go_wp2_with fail
  go_ret
  exact ⟨ret_bool (under_any l l'), HB0.out.trans (hb.mono HB0.out.size)⟩

set_option maxHeartbeats 400000 in
theorem Cmp_any (A A' : Option Addr) (c c' : Nat) (l l' : List Tk) (w : World) (h : In w A c l) (h' : In w A' c' l') (ha : Asc l) (ha' : Asc l') (hlen : l.length ≤ 1000) (hlen' : l'.length ≤ 1000) :
    Calls Tryz.prog 104 #[.slice A l.length c, .slice A' l'.length c'] w (RetV w (.int .i64 (cmpC l l'))) := by
  have HA := Lib.hid h
  have HB := Lib.hid h'
  have HS := Lib.hid ha
  have HS' := Lib.hid ha'
  clear h h' ha ha'
  obtain ⟨p, hp⟩ : ∃ p, underC l l' = p := ⟨_, rfl⟩
  obtain ⟨q, hq⟩ : ∃ q, underC l' l = q := ⟨_, rfl⟩
  have HC : Hid (cmpC l l' = cmpB p q) := by show cmpC l l' = _; unfold cmpC; rw [hp, hq]
  have HP := Lib.hid hp
  have HQ := Lib.hid hq
  clear hp hq
  rw [HC.out]
  go_enter Tryz.func104, Tryz.ntmps104
  go_wp2_with fail
  refine (within_any A A' c c' l l' w HA.out HB.out HS'.out hlen').mono ?_
  rintro e w1 ⟨rfl, hb1⟩
  rw [HP.out]
  go_wp2_with fail
  refine (within_any A' A c' c l' l w1 (HB.out.later hb1) (HA.out.later hb1) HS.out hlen).mono ?_
  rintro e w2 ⟨rfl, hb2⟩
  rw [HQ.out]
  have hb3 : Below w.heap.size w w2 := hb1.trans (hb2.mono hb1.size)
  cases p <;> cases q
  all_goals
    go_wp2_with fail
    go_ret
    exact ⟨rfl, hb3⟩
end Go.Proofs.YtdbohojncbeajaaGreat.C3

namespace Go.Proofs.YtdbohojncbeajaaGreat.V4
open Go.RowKit
open C3 (RetIx)

def longS (s : Str) : Bool := decide (16 < s.length)

theorem any_succ {α : Type} {p : α → Bool} {l : List α} {k : Nat} {x : α} (h0 : (l.take k).any p = false) (hx : l[k]? = some x) (h : p x = false) : (l.take (k + 1)).any p = false := by
  obtain ⟨hi, he⟩ := List.getElem?_eq_some_iff.1 hx
  rw [List.take_succ_eq_append_getElem hi, List.any_append, h0, he]
  simp [h]
theorem any_end {α : Type} {p : α → Bool} {l : List α} {k : Nat} (h0 : (l.take k).any p = false) (h : l.length ≤ k) : l.any p = false := by rwa [List.take_of_length_le h] at h0
theorem any_yes {α : Type} {p : α → Bool} {l : List α} {k : Nat} {x : α} (hx : l[k]? = some x) (h : p x = true) : l.any p = true := List.any_eq_true.2 ⟨x, List.mem_of_getElem? hx, h⟩

set_option maxHeartbeats 400000 in
theorem long_any (s : Str) (w : World) (hs : s.length ≤ maxLen) : Calls Tryz.prog 107 #[.string (S s)] w (RetV w (.bool (longS s))) := by
  have hsz := S_size s
  have hlm : s.length ≤ 9223372036854775807 := by unfold maxLen at hs; omega
  clear hs
  go_enter Tryz.func107, Tryz.ntmps107
  go_wp2_with fail
  go_ret
  refine ⟨ret_bool ?_, Below.refl _ _⟩
  unfold longS
  rw [decide_eq_decide]
  omega

set_option maxHeartbeats 400000 in
theorem indexLong_any (A : Option Addr) (c : Nat) (ss : List Str) (w : World) (hl : Lies w A ss) (hn : ss.length ≤ maxLen) (ht : ∀ s ∈ ss, s.length ≤ maxLen) :
    Calls Tryz.prog 123 #[.slice A ss.length c, .func (.func 107) #[] #[]] w (RetIx w (ss.any longS)) := by
  have hlm : ss.length ≤ 9223372036854775807 := by unfold maxLen at hn; omega
  clear hn
  have HT := Lib.hid ht
  clear ht
  go_enter Tryz.func123, Tryz.ntmps123
  go_wp2_with fail
  go_loopw [8] (fun iv wr => ∃ k : Nat, k ≤ ss.length ∧ iv = .int .i64 k ∧ Hid ((ss.take k).any longS = false) ∧ Below w.heap.size w wr) (fun iv _ => ss.length - (intOf iv).toNat)
  case atStart => exact ⟨0, Nat.zero_le _, rfl, by simp [Hid], Below.refl _ _⟩
  case round =>
    obtain ⟨k, hk, rfl, h0, hbw⟩ := hrel
    by_cases hlt : k < ss.length
    · obtain ⟨b, off, rfl, hb, hc⟩ := (hl.below hbw).get hlt
      obtain ⟨x, hx⟩ : ∃ x, ss[k]? = some x := ⟨_, List.getElem?_eq_getElem hlt⟩
      have hc0 := hc k x hx
      have HX := Lib.hid hx
      clear hx hc hl
      obtain ⟨q, hq⟩ : ∃ q, longS x = q := ⟨_, rfl⟩
      have HQ := Lib.hid hq
      clear hq
      go_wp2_with fail
      refine (long_any x wr (HT.out x (List.mem_of_getElem? HX.out))).mono ?_
      rintro e w' ⟨rfl, hb2⟩
      have hb3 : Below w.heap.size w w' := hbw.trans (hb2.mono hbw.size)
      rw [HQ.out]
      cases q with
      | true =>
        go_wp2_with fail
        go_ret
        exact ⟨_, rfl, (by rw [any_yes HX.out HQ.out]; exact decide_eq_true (by omega)), hb3⟩
      | false =>
        go_wp2_with fail
        go_roundw
        case rel => exact ⟨k + 1, by omega, by go_num, any_succ h0.out HX.out HQ.out, hb3⟩
        case measure => simp [intOf]; omega
    · go_wp2_with fail
      go_ret
      exact ⟨_, rfl, (by rw [any_end h0.out (by omega)]; rfl), hbw⟩

set_option maxHeartbeats 400000 in
theorem containsLong_any (A : Option Addr) (c : Nat) (ss : List Str) (w : World) (hl : Lies w A ss) (hn : ss.length ≤ maxLen) (ht : ∀ s ∈ ss, s.length ≤ maxLen) :
    Calls Tryz.prog 106 #[.slice A ss.length c, .func (.func 107) #[] #[]] w (RetV w (.bool (ss.any longS))) := by
  have HA := Lib.hid (indexLong_any A c ss w hl hn ht)
  clear hl hn ht
  go_enter Tryz.func106, Tryz.ntmps106
  go_wp2_with fail
  refine HA.out.mono ?_
  rintro e w' ⟨i, rfl, hi, hb⟩
  have HI := Lib.hid hi
  clear hi
  go_wp2_with fail
  go_ret
  exact ⟨ret_bool HI.out, hb⟩

/-- What a set's texts must be. -/
def textsS (ss : List Str) : Bool := decide (ss.length ≤ 40) && (decide (R1.Srt ss) && !ss.any longS)

set_option maxHeartbeats 400000 in
theorem texts_any (A : Option Addr) (c : Nat) (ss : List Str) (w : World) (hl : Lies w A ss) (hn : ss.length ≤ maxLen) (ht : ∀ s ∈ ss, s.length ≤ maxLen) :
    Calls Tryz.prog 79 #[.slice A ss.length c] w (RetV w (.bool (textsS ss))) := by
  have HL := Lib.hid hl
  have HN := Lib.hid hn
  have HT := Lib.hid ht
  have hlm : ss.length ≤ 9223372036854775807 := by unfold maxLen at hn; omega
  clear hl hn ht
  by_cases h40 : ss.length ≤ 40
  · obtain ⟨q, hq⟩ : ∃ q, decide (R1.Srt ss) = q := ⟨_, rfl⟩
    have HQ := Lib.hid hq
    have hr : textsS ss = (q && !ss.any longS) := by unfold textsS; rw [decide_eq_true h40, hq]; rfl
    rw [hr]
    clear hq hr
    have h41 : (ss.length : Int) ≤ 40 := by omega
    go_enter Tryz.func79, Tryz.ntmps79
    go_wp2_with fail
    refine (R1.is_any A c ss w HL.out HN.out).mono ?_
    rintro e w' ⟨rfl, n, rfl⟩
    rw [HQ.out]
    cases q with
    | true =>
      go_wp2_with fail
      refine (containsLong_any A c ss _ (HL.out.drewN n) HN.out HT.out).mono ?_
      rintro e w' ⟨rfl, hb⟩
      go_wp2_with fail
      go_ret
      exact ⟨rfl, (below_drewN (Below.refl _ _) n).trans hb⟩
    | false =>
      go_wp2_with fail
      go_ret
      exact ⟨rfl, below_drewN (Below.refl _ _) n⟩
  · have hr : textsS ss = false := by unfold textsS; rw [decide_eq_false h40]; rfl
    rw [hr]
    have h41 : ¬ (ss.length : Int) ≤ 40 := by omega
    clear h40 hr
    go_enter Tryz.func79, Tryz.ntmps79
    go_wp2_with fail
    go_ret
    exact ⟨rfl, Below.refl _ _⟩
end Go.Proofs.YtdbohojncbeajaaGreat.V4

namespace Go.Proofs.YtdbohojncbeajaaGreat.V4
open Go.RowKit


set_option maxHeartbeats 1000000 in
theorem blank_any (n m : Int) (sA : Option Addr) (sc a : Nat) (cA : Option Addr) (cc b : Nat) (vA : Option Addr) (vc d : Nat) (w : World) : Calls Tryz.prog 57 #[.agg #[.int .u64 n, .int .u64 m, .slice sA a sc, .slice cA b cc, .slice vA d vc]] w (RetV w (.bool (hasN n m a b d false false false false false))) := by
  have belB : Below w.heap.size w (w.alloc (.cells #[.int .u64 n, .int .u64 m, .slice sA a sc, .slice cA b cc, .slice vA d vc] 29)) := C3.belAl (Below.refl _ _)
  by_cases h0 : n = 0
  case neg =>
    have HR : Hid (hasN n m a b d false false false false false = false) := by show hasN _ _ _ _ _ _ _ _ _ _ = _; simp [hasN, h0]
    have k0 : (n == 0) = false := by simp; omega
    clear h0
    go_enter Tryz.func57, Tryz.ntmps57
    go_wp2_with fail
    go_ret
    exact ⟨ret_bool HR.out.symm, belB⟩
  by_cases h1 : m = 0
  case neg =>
    have HR : Hid (hasN n m a b d false false false false false = false) := by show hasN _ _ _ _ _ _ _ _ _ _ = _; simp [hasN, h0, h1]
    have k0 : (n == 0) = true := by simp [h0]
    have k1 : (m == 0) = false := by simp; omega
    clear h0 h1
    go_enter Tryz.func57, Tryz.ntmps57
    go_wp2_with fail
    go_ret
    exact ⟨ret_bool HR.out.symm, belB⟩
  by_cases h2 : a = 0
  case neg =>
    have HR : Hid (hasN n m a b d false false false false false = false) := by show hasN _ _ _ _ _ _ _ _ _ _ = _; simp [hasN, h0, h1, h2]
    have k0 : (n == 0) = true := by simp [h0]
    have k1 : (m == 0) = true := by simp [h1]
    have k2 : ((a : Int) == 0) = false := by simp; omega
    clear h0 h1 h2
    go_enter Tryz.func57, Tryz.ntmps57
    go_wp2_with fail
    go_ret
    exact ⟨ret_bool HR.out.symm, belB⟩
  by_cases h3 : b = 0
  case neg =>
    have HR : Hid (hasN n m a b d false false false false false = false) := by show hasN _ _ _ _ _ _ _ _ _ _ = _; simp [hasN, h0, h1, h2, h3]
    have k0 : (n == 0) = true := by simp [h0]
    have k1 : (m == 0) = true := by simp [h1]
    have k2 : ((a : Int) == 0) = true := by simp; omega
    have k3 : ((b : Int) == 0) = false := by simp; omega
    clear h0 h1 h2 h3
    go_enter Tryz.func57, Tryz.ntmps57
    go_wp2_with fail
    go_ret
    exact ⟨ret_bool HR.out.symm, belB⟩
  by_cases h4 : d = 0
  case neg =>
    have HR : Hid (hasN n m a b d false false false false false = false) := by show hasN _ _ _ _ _ _ _ _ _ _ = _; simp [hasN, h0, h1, h2, h3, h4]
    have k0 : (n == 0) = true := by simp [h0]
    have k1 : (m == 0) = true := by simp [h1]
    have k2 : ((a : Int) == 0) = true := by simp; omega
    have k3 : ((b : Int) == 0) = true := by simp; omega
    have k4 : ((d : Int) == 0) = false := by simp; omega
    clear h0 h1 h2 h3 h4
    go_enter Tryz.func57, Tryz.ntmps57
    go_wp2_with fail
    go_ret
    exact ⟨ret_bool HR.out.symm, belB⟩
  have HR : Hid (hasN n m a b d false false false false false = true) := by show hasN _ _ _ _ _ _ _ _ _ _ = _; simp [hasN, h0, h1, h2, h3, h4]
  have k0 : (n == 0) = true := by simp [h0]
  have k1 : (m == 0) = true := by simp [h1]
  have k2 : ((a : Int) == 0) = true := by simp [h2]
  have k3 : ((b : Int) == 0) = true := by simp [h3]
  have k4 : ((d : Int) == 0) = true := by simp [h4]
  clear h0 h1 h2 h3 h4
  go_enter Tryz.func57, Tryz.ntmps57
  go_wp2_with fail
  go_ret
  exact ⟨ret_bool HR.out.symm, belB⟩

/-- A call that answers a value of which blank says v. -/
def RetB (w : World) (v : Bool) (e : Ending) (w' : World) : Prop := ∃ (n m : Int) (sA : Option Addr) (sc a : Nat) (cA : Option Addr) (cc b : Nat) (vA : Option Addr) (vc d : Nat), e = .returned (.agg #[.int .u64 n, .int .u64 m, .slice sA a sc, .slice cA b cc, .slice vA d vc]) ∧ hasN n m a b d false false false false false = v ∧ Below w.heap.size w w'

set_option maxHeartbeats 1000000 in
theorem stripped_1 (n m : Int) (sA : Option Addr) (sc a : Nat) (cA : Option Addr) (cc b : Nat) (vA : Option Addr) (vc d : Nat) (w : World) : Calls Tryz.prog 58 #[.int .i64 1, .agg #[.int .u64 n, .int .u64 m, .slice sA a sc, .slice cA b cc, .slice vA d vc]] w (RetB w (hasN n m a b d true false false false false)) := by
  go_enter Tryz.func58, Tryz.ntmps58
  go_wp2_with fail
  refine bodyPost_ret (results_cellV rfl _ _ (w.heap.size + 1) (.int .u64 0) (.int .u64 m) (.slice sA a sc) (.slice cA b cc) (.slice vA d vc) rfl (by go_simp) (by go_simp) (by go_simp) (by go_simp) (by go_simp)) rfl ?_
  refine ⟨_, _, _, _, _, _, _, _, _, _, _, rfl, by simp [hasN], ?_⟩
  exact C3.belAl (C3.belAl (Below.refl _ _))

set_option maxHeartbeats 1000000 in
theorem stripped_2 (n m : Int) (sA : Option Addr) (sc a : Nat) (cA : Option Addr) (cc b : Nat) (vA : Option Addr) (vc d : Nat) (w : World) : Calls Tryz.prog 58 #[.int .i64 2, .agg #[.int .u64 n, .int .u64 m, .slice sA a sc, .slice cA b cc, .slice vA d vc]] w (RetB w (hasN n m a b d true false false false false)) := by
  go_enter Tryz.func58, Tryz.ntmps58
  go_wp2_with fail
  refine bodyPost_ret (results_cellV rfl _ _ (w.heap.size + 1) (.int .u64 0) (.int .u64 m) (.slice sA a sc) (.slice cA b cc) (.slice vA d vc) rfl (by go_simp) (by go_simp) (by go_simp) (by go_simp) (by go_simp)) rfl ?_
  refine ⟨_, _, _, _, _, _, _, _, _, _, _, rfl, by simp [hasN], ?_⟩
  exact C3.belAl (C3.belAl (Below.refl _ _))

set_option maxHeartbeats 1000000 in
theorem stripped_3 (n m : Int) (sA : Option Addr) (sc a : Nat) (cA : Option Addr) (cc b : Nat) (vA : Option Addr) (vc d : Nat) (w : World) : Calls Tryz.prog 58 #[.int .i64 3, .agg #[.int .u64 n, .int .u64 m, .slice sA a sc, .slice cA b cc, .slice vA d vc]] w (RetB w (hasN n m a b d false false true false false)) := by
  go_enter Tryz.func58, Tryz.ntmps58
  go_wp2_with fail
  refine bodyPost_ret (results_cellV rfl _ _ (w.heap.size + 1) (.int .u64 n) (.int .u64 m) (.slice none 0 0) (.slice cA b cc) (.slice vA d vc) rfl (by go_simp) (by go_simp) (by go_simp) (by go_simp) (by go_simp)) rfl ?_
  refine ⟨_, _, _, _, _, _, _, _, _, _, _, rfl, by simp [hasN], ?_⟩
  exact C3.belAl (C3.belAl (Below.refl _ _))

set_option maxHeartbeats 1000000 in
theorem stripped_4 (n m : Int) (sA : Option Addr) (sc a : Nat) (cA : Option Addr) (cc b : Nat) (vA : Option Addr) (vc d : Nat) (w : World) : Calls Tryz.prog 58 #[.int .i64 4, .agg #[.int .u64 n, .int .u64 m, .slice sA a sc, .slice cA b cc, .slice vA d vc]] w (RetB w (hasN n m a b d false false true false true)) := by
  go_enter Tryz.func58, Tryz.ntmps58
  go_wp2_with fail
  refine bodyPost_ret (results_cellV rfl _ _ (w.heap.size + 1) (.int .u64 n) (.int .u64 m) (.slice none 0 0) (.slice cA b cc) (.slice none 0 0) rfl (by go_simp) (by go_simp) (by go_simp) (by go_simp) (by go_simp)) rfl ?_
  refine ⟨_, _, _, _, _, _, _, _, _, _, _, rfl, by simp [hasN], ?_⟩
  exact C3.belAl (C3.belAl (Below.refl _ _))

set_option maxHeartbeats 1000000 in
theorem stripped_5 (n m : Int) (sA : Option Addr) (sc a : Nat) (cA : Option Addr) (cc b : Nat) (vA : Option Addr) (vc d : Nat) (w : World) : Calls Tryz.prog 58 #[.int .i64 5, .agg #[.int .u64 n, .int .u64 m, .slice sA a sc, .slice cA b cc, .slice vA d vc]] w (RetB w (hasN n m a b d false false false false true)) := by
  go_enter Tryz.func58, Tryz.ntmps58
  go_wp2_with fail
  refine bodyPost_ret (results_cellV rfl _ _ (w.heap.size + 1) (.int .u64 n) (.int .u64 m) (.slice sA a sc) (.slice cA b cc) (.slice none 0 0) rfl (by go_simp) (by go_simp) (by go_simp) (by go_simp) (by go_simp)) rfl ?_
  refine ⟨_, _, _, _, _, _, _, _, _, _, _, rfl, by simp [hasN], ?_⟩
  exact C3.belAl (C3.belAl (Below.refl _ _))

set_option maxHeartbeats 1000000 in
theorem stripped_6 (n m : Int) (sA : Option Addr) (sc a : Nat) (cA : Option Addr) (cc b : Nat) (vA : Option Addr) (vc d : Nat) (w : World) : Calls Tryz.prog 58 #[.int .i64 6, .agg #[.int .u64 n, .int .u64 m, .slice sA a sc, .slice cA b cc, .slice vA d vc]] w (RetB w (hasN n m a b d true true true false false)) := by
  go_enter Tryz.func58, Tryz.ntmps58
  go_wp2_with fail
  refine bodyPost_ret (results_cellV rfl _ _ (w.heap.size + 1) (.int .u64 0) (.int .u64 0) (.slice none 0 0) (.slice cA b cc) (.slice vA d vc) rfl (by go_simp) (by go_simp) (by go_simp) (by go_simp) (by go_simp)) rfl ?_
  refine ⟨_, _, _, _, _, _, _, _, _, _, _, rfl, by simp [hasN], ?_⟩
  exact C3.belAl (C3.belAl (Below.refl _ _))

set_option maxHeartbeats 1000000 in
theorem stripped_7 (n m : Int) (sA : Option Addr) (sc a : Nat) (cA : Option Addr) (cc b : Nat) (vA : Option Addr) (vc d : Nat) (w : World) : Calls Tryz.prog 58 #[.int .i64 7, .agg #[.int .u64 n, .int .u64 m, .slice sA a sc, .slice cA b cc, .slice vA d vc]] w (RetB w (hasN n m a b d false false false true false)) := by
  go_enter Tryz.func58, Tryz.ntmps58
  go_wp2_with fail
  refine bodyPost_ret (results_cellV rfl _ _ (w.heap.size + 1) (.int .u64 n) (.int .u64 m) (.slice sA a sc) (.slice none 0 0) (.slice vA d vc) rfl (by go_simp) (by go_simp) (by go_simp) (by go_simp) (by go_simp)) rfl ?_
  refine ⟨_, _, _, _, _, _, _, _, _, _, _, rfl, by simp [hasN], ?_⟩
  exact C3.belAl (C3.belAl (Below.refl _ _))

set_option maxHeartbeats 1000000 in
theorem stripped_8 (n m : Int) (sA : Option Addr) (sc a : Nat) (cA : Option Addr) (cc b : Nat) (vA : Option Addr) (vc d : Nat) (w : World) : Calls Tryz.prog 58 #[.int .i64 8, .agg #[.int .u64 n, .int .u64 m, .slice sA a sc, .slice cA b cc, .slice vA d vc]] w (RetB w (hasN n m a b d false false false true true)) := by
  go_enter Tryz.func58, Tryz.ntmps58
  go_wp2_with fail
  refine bodyPost_ret (results_cellV rfl _ _ (w.heap.size + 1) (.int .u64 n) (.int .u64 m) (.slice sA a sc) (.slice none 0 0) (.slice none 0 0) rfl (by go_simp) (by go_simp) (by go_simp) (by go_simp) (by go_simp)) rfl ?_
  refine ⟨_, _, _, _, _, _, _, _, _, _, _, rfl, by simp [hasN], ?_⟩
  exact C3.belAl (C3.belAl (Below.refl _ _))

set_option maxHeartbeats 1000000 in
theorem stripped_0 (k : Int) (h : ¬ (1 ≤ k ∧ k ≤ 8)) (n m : Int) (sA : Option Addr) (sc a : Nat) (cA : Option Addr) (cc b : Nat) (vA : Option Addr) (vc d : Nat) (w : World) : Calls Tryz.prog 58 #[.int .i64 k, .agg #[.int .u64 n, .int .u64 m, .slice sA a sc, .slice cA b cc, .slice vA d vc]] w (RetB w (hasN n m a b d false false false false false)) := by
  have k1 : (k == 1) = false := by simp; omega
  have k2 : (k == 2) = false := by simp; omega
  have k3 : (k == 3) = false := by simp; omega
  have k4 : (k == 4) = false := by simp; omega
  have k5 : (k == 5) = false := by simp; omega
  have k6 : (k == 6) = false := by simp; omega
  have k7 : (k == 7) = false := by simp; omega
  have k8 : (k == 8) = false := by simp; omega
  clear h
  go_enter Tryz.func58, Tryz.ntmps58
  go_wp2_with fail
  refine bodyPost_ret (results_cellV rfl _ _ (w.heap.size + 1) (.int .u64 n) (.int .u64 m) (.slice sA a sc) (.slice cA b cc) (.slice vA d vc) rfl (by go_simp) (by go_simp) (by go_simp) (by go_simp) (by go_simp)) rfl ?_
  refine ⟨_, _, _, _, _, _, _, _, _, _, _, rfl, by simp [hasN], ?_⟩
  exact C3.belAl (C3.belAl (Below.refl _ _))

end Go.Proofs.YtdbohojncbeajaaGreat.V4

namespace Go.Proofs.YtdbohojncbeajaaGreat.V4
open Go.RowKit
open C3 (RetIx Tk isC)

/-- There is a last writer, and what it wrote is something. -/
def writtenV (n m : Int) (ss : List Str) : Bool := match ss with
  | [s] => !longS s && (decide (n ≠ 0) || (decide (m ≠ 0) || decide (s ≠ [])))
  | _ => false

theorem ibeq {a b : Int} (h : a = b) : (a == b) = true := beq_iff_eq.2 h
theorem ibne {a b : Int} (h : a ≠ b) : (a == b) = false := beq_eq_false_iff_ne.2 h
theorem ibnn {a b : Int} (h : a ≠ b) : (a != b) = true := by simp [h]
theorem beqS_nil (s : Str) : (s == []) = decide (s = []) := by cases s <;> rfl

set_option maxRecDepth 100000 in
set_option maxHeartbeats 1000000 in
theorem written_any (n m : Int) (sA : Option Addr) (sc : Nat) (ss : List Str) (cA : Option Addr) (cc b : Nat) (vA : Option Addr) (vc d : Nat) (w : World) (hn : 0 ≤ n) (hm : 0 ≤ m) (hl : Lies w sA ss) (hlm : ss.length ≤ maxLen) (ht : ∀ s ∈ ss, s.length ≤ maxLen) :
    Calls Tryz.prog 81 #[.agg #[.int .u64 n, .int .u64 m, .slice sA ss.length sc, .slice cA b cc, .slice vA d vc]] w (RetV w (.bool (writtenV n m ss))) := by
  have belB : Below w.heap.size w (w.alloc (.cells #[.int .u64 n, .int .u64 m, .slice sA ss.length sc, .slice cA b cc, .slice vA d vc] 29)) := C3.belAl (Below.refl _ _)
  by_cases h1 : ss.length = 1
  · obtain ⟨s, rfl⟩ : ∃ s, ss = [s] := List.length_eq_one_iff.1 h1
    clear h1
    obtain ⟨bb, off, rfl, hb, hc⟩ := hl.get (k := 0) (by simp)
    have hc0 := hc 0 s rfl
    rw [Nat.add_zero] at hc0
    have hs : s.length ≤ maxLen := ht s (by simp)
    clear hc hl ht hlm
    have HL := Lib.hid (long_any s (w.alloc (.cells #[.int .u64 n, .int .u64 m, .slice (some ⟨bb, off, none⟩) [s].length sc, .slice cA b cc, .slice vA d vc] 29)) hs)
    simp only [List.length_cons, List.length_nil, Nat.zero_add] at HL belB ⊢
    obtain ⟨q, hq⟩ : ∃ q, longS s = q := ⟨_, rfl⟩
    have hw : writtenV n m [s] = (!q && (decide (n ≠ 0) || (decide (m ≠ 0) || decide (s ≠ [])))) := by simp only [writtenV, hq]
    rw [hw]
    rw [hq] at HL
    clear hw hq hs
    go_enter Tryz.func81, Tryz.ntmps81
    go_wp2_with fail
    refine HL.out.mono ?_
    clear HL
    rintro e w' ⟨rfl, hb2⟩
    have hbb := belB.trans (hb2.mono belB.size)
    have e0 := (hb2.cell (p := ⟨w.heap.size, 0, none⟩) (by simp)).trans (alloc_cells 0 _ rfl)
    have e1 := (hb2.cell (p := ⟨w.heap.size, 1, none⟩) (by simp)).trans (alloc_cells 1 _ rfl)
    have e2 := (hb2.cell (p := ⟨w.heap.size, 2, none⟩) (by simp)).trans (alloc_cells 2 _ rfl)
    have f0 := (hbb.cell (p := ⟨bb, off, none⟩) hb).trans hc0
    have hbl := World.block_lt_of_cell? w' _ f0
    simp only at hbl
    clear hb2 belB hc0
    cases q with
    | true =>
      go_wp2_with fail
      go_ret
      exact ⟨rfl, hbb⟩
    | false =>
      by_cases hn0 : n = 0
      · have kn : decide (0 < n) = false := decide_eq_false (by omega)
        by_cases hm0 : m = 0
        · have km : decide (0 < m) = false := decide_eq_false (by omega)
          have HR : Hid ((!decide (s = [])) = (!false && (decide (n ≠ 0) || (decide (m ≠ 0) || decide (s ≠ []))))) := by show _ = _; simp [hn0, hm0]
          by_cases hs0 : s = []
          · have ks : (s == []) = true := by rw [beqS_nil]; exact decide_eq_true hs0
            clear hn0 hm0 hn hm
            go_wp2_with fail
            go_ret
            refine ⟨ret_bool ?_, hbb⟩
            rw [← HR.out, decide_eq_true hs0]; rfl
          · have ks : (s == []) = false := by rw [beqS_nil]; exact decide_eq_false hs0
            clear hn0 hm0 hn hm
            go_wp2_with fail
            go_ret
            refine ⟨ret_bool ?_, hbb⟩
            rw [← HR.out, decide_eq_false hs0]; rfl
        · have km : 0 < m := by omega
          have HR : Hid (true = (!false && (decide (n ≠ 0) || (decide (m ≠ 0) || decide (s ≠ []))))) := by show _ = _; simp [hn0, hm0]
          clear hn0 hm0 hn hm
          go_wp2_with fail
          go_ret
          exact ⟨ret_bool HR.out, hbb⟩
      · have kn : 0 < n := by omega
        have HR : Hid (true = (!false && (decide (n ≠ 0) || (decide (m ≠ 0) || decide (s ≠ []))))) := by show _ = _; simp [hn0]
        clear hn0 hn hm
        go_wp2_with fail
        go_ret
        exact ⟨ret_bool HR.out, hbb⟩
  · have hw : writtenV n m ss = false := by
      unfold writtenV
      split
      · simp at h1
      · rfl
    rw [hw]
    have k1 : ((ss.length : Int) != 1) = true := ibnn (by omega)
    clear h1 hw hl ht hlm
    go_enter Tryz.func81, Tryz.ntmps81
    go_wp2_with fail
    go_ret
    exact ⟨rfl, belB⟩

def idleC (c : Ck) : Bool := decide (c.l.length = 0) || !isC c.l

set_option maxHeartbeats 400000 in
theorem idle_any (c : Ck) (w : World) (h : InC w c) : Calls Tryz.prog 83 #[c.v] w (RetV w (.bool (idleC c))) := by
  have HI := Lib.hid (C3.Is_any c.A c.c c.l w (Ck.Inp.inn h))
  unfold idleC
  clear h
  obtain ⟨A, cp, l⟩ := c
  simp only [Ck.v] at HI ⊢
  by_cases h0 : l.length = 0
  · have k0 : ((l.length : Int) == 0) = true := ibeq (by omega)
    rw [decide_eq_true h0]
    clear h0
    go_enter Tryz.func83, Tryz.ntmps83
    go_wp2_with fail
    go_ret
    exact ⟨rfl, Below.refl _ _⟩
  · have k0 : ((l.length : Int) == 0) = false := ibne (by omega)
    rw [decide_eq_false h0]
    clear h0
    go_enter Tryz.func83, Tryz.ntmps83
    go_wp2_with fail
    refine HI.out.mono ?_
    rintro e w' ⟨rfl, hb⟩
    go_wp2_with fail
    go_ret
    exact ⟨rfl, hb⟩
set_option maxHeartbeats 400000 in
theorem indexIdle_any (A : Option Addr) (c : Nat) (cs : List Ck) (w : World) (hl : LiesC (fun b => b < w.heap.size) w A (cellsC cs)) (hn : cs.length ≤ maxLen) (ht : ∀ k ∈ cs, InC w k) :
    Calls Tryz.prog 109 #[.slice A cs.length c, .func (.func 83) #[] #[]] w (RetIx w (cs.any idleC)) := by
  have hlm : cs.length ≤ 9223372036854775807 := by unfold maxLen at hn; omega
  clear hn
  have HT := Lib.hid ht
  clear ht
  go_enter Tryz.func109, Tryz.ntmps109
  go_wp2_with fail
  go_loopw [8] (fun iv wr => ∃ k : Nat, k ≤ cs.length ∧ iv = .int .i64 k ∧ Hid ((cs.take k).any idleC = false) ∧ Below w.heap.size w wr) (fun iv _ => cs.length - (intOf iv).toNat)
  case atStart => exact ⟨0, Nat.zero_le _, rfl, by simp [Hid], Below.refl _ _⟩
  case round =>
    obtain ⟨k, hk, rfl, h0, hbw⟩ := hrel
    by_cases hlt : k < cs.length
    · obtain ⟨x, hx⟩ : ∃ x, cs[k]? = some x := ⟨_, List.getElem?_eq_getElem hlt⟩
      obtain ⟨b, off, rfl, hb, hc⟩ := clock_at (hl.below hbw) hx
      have hc0 := hc
      have HX := Lib.hid hx
      clear hx hc hl
      obtain ⟨q, hq⟩ : ∃ q, idleC x = q := ⟨_, rfl⟩
      have HQ := Lib.hid hq
      clear hq
      go_wp2_with fail
      refine (idle_any x wr ((HT.out x (List.mem_of_getElem? HX.out)).later hbw)).mono ?_
      rintro e w' ⟨rfl, hb2⟩
      have hb3 : Below w.heap.size w w' := hbw.trans (hb2.mono hbw.size)
      rw [HQ.out]
      cases q with
      | true =>
        go_wp2_with fail
        go_ret
        exact ⟨_, rfl, (by rw [any_yes HX.out HQ.out]; exact decide_eq_true (by omega)), hb3⟩
      | false =>
        go_wp2_with fail
        go_roundw
        case rel => exact ⟨k + 1, by omega, by go_num, any_succ h0.out HX.out HQ.out, hb3⟩
        case measure => simp [intOf]; omega
    · go_wp2_with fail
      go_ret
      exact ⟨_, rfl, (by rw [any_end h0.out (by omega)]; rfl), hbw⟩

set_option maxHeartbeats 400000 in
theorem containsIdle_any (A : Option Addr) (c : Nat) (cs : List Ck) (w : World) (hl : LiesC (fun b => b < w.heap.size) w A (cellsC cs)) (hn : cs.length ≤ maxLen) (ht : ∀ k ∈ cs, InC w k) :
    Calls Tryz.prog 82 #[.slice A cs.length c, .func (.func 83) #[] #[]] w (RetV w (.bool (cs.any idleC))) := by
  have HA := Lib.hid (indexIdle_any A c cs w hl hn ht)
  clear hl hn ht
  go_enter Tryz.func82, Tryz.ntmps82
  go_wp2_with fail
  refine HA.out.mono ?_
  rintro e w' ⟨i, rfl, hi, hb⟩
  have HI := Lib.hid hi
  clear hi
  go_wp2_with fail
  go_ret
  exact ⟨ret_bool HI.out, hb⟩

end Go.Proofs.YtdbohojncbeajaaGreat.V4
