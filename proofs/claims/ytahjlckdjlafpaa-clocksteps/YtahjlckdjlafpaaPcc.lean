/- What slices.BinarySearchFunc does with clock.byWho; clock.found, clock.Of. No condition but that the ticks lie in memory and rise, at most 1000. -/
import Derived.Test.YtahjlckdjlafpaaPcb
import Derived.Deep.RegionHeld3
namespace Go.Proofs.Ytahjlckdjlafpaa
open Go.RowKit

theorem take_mono {xs : List Tk} {q : Int} {m : Nat} {y : Tk} (h : Asc xs) (hy : xs[m]? = some y) (hlt : y.k < q) : ∀ x ∈ xs.take (m + 1), x.k < q := by
  intro x hx
  obtain ⟨hm, he⟩ := List.getElem?_eq_some_iff.1 hy
  obtain ⟨i, hi, rfl⟩ := List.mem_iff_getElem.1 hx
  simp only [List.getElem_take]
  have hi' : i < m + 1 := by simp at hi; omega
  rcases Nat.lt_or_ge i m with h1 | h1
  · have := List.pairwise_iff_getElem.1 h i m (by omega) hm h1
    rw [he] at this
    exact Int.lt_trans this hlt
  · have : i = m := by omega
    subst this
    rw [he]; exact hlt

theorem drop_mono {xs : List Tk} {q : Int} {m : Nat} {y : Tk} (h : Asc xs) (hy : xs[m]? = some y) (hge : q ≤ y.k) : ∀ x ∈ xs.drop m, q ≤ x.k := by
  intro x hx
  obtain ⟨hm, he⟩ := List.getElem?_eq_some_iff.1 hy
  rw [List.drop_eq_getElem_cons hm, he] at hx
  rcases List.mem_cons.1 hx with e | e
  · rw [e]; exact hge
  · have hp : Asc (xs.drop m) := List.Pairwise.drop h
    rw [List.drop_eq_getElem_cons hm, he] at hp
    have := (List.pairwise_cons.1 hp).1 x e
    omega

theorem found_no {xs : List Tk} {q : Int} {m : Nat} (h : Asc xs) (h1 : ∀ x ∈ xs.take m, x.k < q) (h2 : ∀ y, xs[m]? = some y → q < y.k) : ∀ x ∈ xs, x.k ≠ q := by
  intro s hs e
  rw [← List.take_append_drop m xs] at hs
  rcases List.mem_append.1 hs with k | k
  · have := h1 s k
    omega
  · cases hx : xs[m]? with
    | none =>
      rw [List.getElem?_eq_none_iff] at hx
      rw [List.drop_eq_nil_of_le hx] at k
      cases k
    | some y =>
      have hlt := h2 y hx
      have := drop_mono (q := y.k) h hx (Int.le_refl _) s k
      omega

/-- A call that answers a place and whether it is there. -/
def RetPos (l : List Tk) (q : Int) (w : World) (e : Ending) (w' : World) : Prop :=
  ∃ (m : Nat) (b : Bool), e = .returned (.tuple #[.int .i64 m, .bool b]) ∧ (b = true → ∃ x, l[m]? = some x ∧ x.k = q) ∧ (b = false → ∀ x ∈ l, x.k ≠ q) ∧ Below w.heap.size w w'

set_option maxRecDepth 100000 in
set_option maxHeartbeats 1000000 in
theorem search_any (A : Option Addr) (c : Nat) (l : List Tk) (q tn : Int) (w : World) (h : In w A c l) (ha : Asc l) (hlen : l.length ≤ 1000) :
    Calls Try.prog 31 #[.slice A l.length c, .agg #[.int .i64 q, .int .u64 tn], .func (.func 19) #[] #[]] w (RetPos l q w) := by
  obtain ⟨hl, -, -, -⟩ := h
  have HS := Lib.hid ha
  clear ha
  go_enter Try.func31, Try.ntmps31
  go_wp2_with fail
  go_loopw [9, 10] (fun i j wr => ∃ lo hi : Nat, lo ≤ hi ∧ hi ≤ l.length ∧ i = .int .i64 lo ∧ j = .int .i64 hi ∧ Hid (∀ x ∈ l.take lo, x.k < q) ∧ Hid (∀ x ∈ l.drop hi, q ≤ x.k) ∧ Below w.heap.size w wr ∧
    wr.cell? ⟨w.heap.size, 0, none⟩ = some (.int .i64 q) ∧ wr.cell? ⟨w.heap.size, 1, none⟩ = some (.int .u64 tn) ∧ w.heap.size < wr.heap.size) (fun i j _ => (intOf j).toNat - (intOf i).toNat)
  case atStart => exact ⟨0, l.length, Nat.zero_le _, Nat.le_refl _, rfl, rfl, by simp [Hid], by simp [Hid], allocB _ _, by simp, by simp, by simp⟩
  case round =>
    obtain ⟨lo, hi, hlh, hin, rfl, rfl, h1, h2, hbw, hx0, hx1, hsz⟩ := hrel
    by_cases hlt : lo < hi
    · have hmid : (lo + hi) / 2 < l.length := by omega
      obtain ⟨b, off, rfl, hb, hc⟩ := (hl.below hbw).get hmid
      obtain ⟨y, hy⟩ : ∃ y, l[(lo + hi) / 2]? = some y := ⟨_, List.getElem?_eq_getElem hmid⟩
      obtain ⟨hc0, hc1⟩ := hc _ y hy
      have HY := Lib.hid hy
      clear hy hc hl
      obtain ⟨yk, yn⟩ := y
      dsimp only at hc0 hc1
      have hmI : ((lo : Int) + (hi : Int)) / 2 < (l.length : Int) := by omega
      have hmN : (((lo : Int) + (hi : Int)) / 2).toNat = (lo + hi) / 2 := by omega
      have hm0 : 0 ≤ ((lo : Int) + (hi : Int)) / 2 := by omega
      have hmE : ((lo : Int) + (hi : Int)) / 2 = (((lo + hi) / 2 : Nat) : Int) := by omega
      have HME := Lib.hid hmE
      have HBW := Lib.hid hbw
      clear hmE hbw
      go_wp2_with fail
      go_still_tail 6, (by kernel_rfl)
      change wpList _ _ _ _ _ wr.drew
      clear hmI hmN hm0
      go_wp2_with fail
      refine (byWho_any yk yn q tn _).mono ?_
      rintro e w4 ⟨rfl, hb4⟩
      have hbw4 : Below w.heap.size w w4 := (HBW.out.drew).trans (hb4.mono HBW.out.size)
      have hy0 : w4.cell? ⟨w.heap.size, 0, none⟩ = some (.int .i64 q) := (hb4.cell (p := ⟨w.heap.size, 0, none⟩) hsz).trans hx0
      have hy1 : w4.cell? ⟨w.heap.size, 1, none⟩ = some (.int .u64 tn) := (hb4.cell (p := ⟨w.heap.size, 1, none⟩) hsz).trans hx1
      have hsz4 : w.heap.size < w4.heap.size := Nat.lt_of_lt_of_le hsz hb4.size
      clear hb4 hx0 hx1 hsz hc0 hc1
      rw [HME.out]
      by_cases c4 : yk < q
      · have HC := Lib.hid c4
        rw [cmpI_lt c4]
        clear c4
        go_wp2_with fail
        go_roundw
        case rel => exact ⟨(lo + hi) / 2 + 1, hi, by omega, hin, by go_num, rfl, take_mono HS.out HY.out HC.out, h2, hbw4, hy0, hy1, hsz4⟩
        case measure => simp [intOf]; omega
      · have HC : Hid (q ≤ yk) := by show q ≤ yk; omega
        have c5 : 0 ≤ cmpI yk q := by unfold cmpI; rw [if_neg c4]; split <;> omega
        generalize cmpI yk q = z at *
        clear c4
        go_wp2_with fail
        go_roundw
        case rel => exact ⟨lo, (lo + hi) / 2, by omega, by omega, rfl, by go_num, h1, drop_mono HS.out HY.out HC.out, hbw4, hy0, hy1, hsz4⟩
        case measure => simp [intOf]; omega
    · obtain rfl : lo = hi := by omega
      by_cases hmid : lo < l.length
      · obtain ⟨b, off, rfl, hb, hc⟩ := (hl.below hbw).get hmid
        obtain ⟨y, hy⟩ : ∃ y, l[lo]? = some y := ⟨_, List.getElem?_eq_getElem hmid⟩
        obtain ⟨hc0, hc1⟩ := hc _ y hy
        have HY := Lib.hid hy
        have HM : Hid (q ≤ y.k) := h2.out y (by rw [drop_at hy]; simp)
        clear hy hc hl
        obtain ⟨yk, yn⟩ := y
        dsimp only at hc0 hc1 HM
        have hli : (lo : Int) < (l.length : Int) := by omega
        have hbb : b < wr.heap.size := Nat.lt_of_lt_of_le hb hbw.size
        have HBW : Hid (Below w.heap.size w wr.drew) := hbw.drew
        clear hbw
        by_cases c4 : yk = q
        · have HC := Lib.hid c4
          have HZ : Hid (cmpI yk q = 0) := by show cmpI yk q = 0; rw [c4, cmpI_eq]
          clear c4
          go_wp2_with fail
          go_region_held3 (fun w' => w'.cell? ⟨b, off + lo * 2, none⟩ = some (.int .i64 yk) ∧ w'.cell? ⟨b, off + lo * 2 + 1, none⟩ = some (.int .u64 yn) ∧ w'.cell? ⟨w.heap.size, 0, none⟩ = some (.int .i64 q) ∧ w'.cell? ⟨w.heap.size, 1, none⟩ = some (.int .u64 tn))
            (first
              | exact ⟨hc0, hc1, hx0, hx1⟩)
            (first
              | (go_at_call 19; refine (byWho_any yk yn q tn _).mono ?_; rintro e w4 ⟨rfl, hb4⟩; (rw [HZ.out]; replace hc0 := (hb4.cell (p := ⟨b, off + lo * 2, none⟩) hbb).trans hc0; replace hc1 := (hb4.cell (p := ⟨b, off + lo * 2 + 1, none⟩) hbb).trans hc1; replace hx0 := (hb4.cell (p := ⟨w.heap.size, 0, none⟩) hsz).trans hx0; replace hx1 := (hb4.cell (p := ⟨w.heap.size, 1, none⟩) hsz).trans hx1; replace HBW : Hid (Below w.heap.size w w4) := HBW.out.trans (hb4.mono HBW.out.size); clear hb4)))
          go_wp2_with fail
          go_ret2
          exact ⟨lo, true, rfl, fun _ => ⟨_, HY.out, HC.out⟩, (fun h => by cases h), HBW.out⟩
        · have HC := Lib.hid c4
          have HZ : Hid (cmpI yk q = 1) := cmpI_gt (by have := HM.out; omega)
          clear c4
          go_wp2_with fail
          go_region_held3 (fun w' => w'.cell? ⟨b, off + lo * 2, none⟩ = some (.int .i64 yk) ∧ w'.cell? ⟨b, off + lo * 2 + 1, none⟩ = some (.int .u64 yn) ∧ w'.cell? ⟨w.heap.size, 0, none⟩ = some (.int .i64 q) ∧ w'.cell? ⟨w.heap.size, 1, none⟩ = some (.int .u64 tn))
            (first
              | exact ⟨hc0, hc1, hx0, hx1⟩)
            (first
              | (go_at_call 19; refine (byWho_any yk yn q tn _).mono ?_; rintro e w4 ⟨rfl, hb4⟩; (rw [HZ.out]; replace hc0 := (hb4.cell (p := ⟨b, off + lo * 2, none⟩) hbb).trans hc0; replace hc1 := (hb4.cell (p := ⟨b, off + lo * 2 + 1, none⟩) hbb).trans hc1; replace hx0 := (hb4.cell (p := ⟨w.heap.size, 0, none⟩) hsz).trans hx0; replace hx1 := (hb4.cell (p := ⟨w.heap.size, 1, none⟩) hsz).trans hx1; replace HBW : Hid (Below w.heap.size w w4) := HBW.out.trans (hb4.mono HBW.out.size); clear hb4)))
          go_wp2_with fail
          go_ret2
          refine ⟨lo, false, rfl, (fun h => by cases h), fun _ => found_no HS.out h1.out fun z hz => ?_, HBW.out⟩
          have e := HY.out
          rw [hz] at e
          cases e
          have := HM.out
          have := HC.out
          show q < yk
          omega
      · have d1 : decide ((lo : Int) < (l.length : Int)) = false := decide_eq_false (by omega)
        go_wp2_with fail
        go_quiet (fail)
        go_wp2_with fail
        go_ret2
        exact ⟨lo, false, rfl, (fun h => by cases h), fun _ => found_no HS.out h1.out fun z hz => absurd (List.getElem?_eq_some_iff.1 hz).1 hmid, below_drewN hbw _⟩
end Go.Proofs.Ytahjlckdjlafpaa
