/- What clock.within and clock.Cmp do. No condition but that the ticks lie in memory and rise, at most 1000. -/
import Derived.Test.YtahjlckdjlafpaaPcd
namespace Go.Proofs.Ytahjlckdjlafpaa
open Go.RowKit

set_option maxHeartbeats 400000 in
theorem ahead_any (B : Nat) (A : Option Addr) (c : Nat) (l : List Tk) (xk xn : Int) (w : World) (hB : B < w.heap.size) (hc : w.cell? ⟨B, 0, none⟩ = some (.slice A l.length c)) (h : In w A c l) (ha : Asc l) (hlen : l.length ≤ 1000) :
    Calls Try.prog 32 #[.agg #[.int .i64 xk, .int .u64 xn], .pointer (some ⟨B, 0, none⟩)] w (RetV w (.bool (decide (ofC l xk < xn)))) := by
  have HB0 : Hid (Below w.heap.size w (w.alloc (.cells #[.int .i64 xk, .int .u64 xn] 35)).drew) := (allocB _ _).drew
  have HA := Lib.hid (h.later HB0.out)
  have HS := Lib.hid ha
  clear h ha
  go_enter Try.func32, Try.ntmps32
  go_wp2_with fail
  have e0 : (w.alloc (.cells #[.int .i64 xk, .int .u64 xn] 35)).cell? ⟨w.heap.size, 0, none⟩ = some (.int .i64 xk) := by simp
  have e1 : (w.alloc (.cells #[.int .i64 xk, .int .u64 xn] 35)).cell? ⟨w.heap.size, 1, none⟩ = some (.int .u64 xn) := by simp
  have e2 : (w.alloc (.cells #[.int .i64 xk, .int .u64 xn] 35)).cell? ⟨B, 0, none⟩ = some (.slice A l.length c) := ((allocB w _).cell (p := ⟨B, 0, none⟩) hB).trans hc
  generalize (w.alloc (.cells #[.int .i64 xk, .int .u64 xn] 35)) = W0 at *
  have hB2 : B < W0.heap.size := World.block_lt_of_cell? W0 _ e2
  have hs2 : w.heap.size < W0.heap.size := World.block_lt_of_cell? W0 _ e0
  obtain ⟨z, hz⟩ : ∃ z, ofC l xk = z := ⟨_, rfl⟩
  have HZ := Lib.hid hz
  clear hB hc hz
  go_region_held3 (fun w' => w'.cell? ⟨w.heap.size, 0, none⟩ = some (.int .i64 xk) ∧ w'.cell? ⟨w.heap.size, 1, none⟩ = some (.int .u64 xn) ∧ w'.cell? ⟨B, 0, none⟩ = some (.slice A l.length c))
    (first
      | exact ⟨e0, e1, e2⟩)
    (first
      | (go_at_call 10; refine (Of_any A c l xk _ HA.out HS.out hlen).mono ?_; rintro e w4 ⟨rfl, hb4⟩; (rw [HZ.out]; replace e0 := (hb4.cell (p := ⟨w.heap.size, 0, none⟩) hs2).trans e0; replace e1 := (hb4.cell (p := ⟨w.heap.size, 1, none⟩) hs2).trans e1; replace e2 := (hb4.cell (p := ⟨B, 0, none⟩) hB2).trans e2; replace HB0 : Hid (Below w.heap.size w w4) := HB0.out.trans (hb4.mono HB0.out.size); clear hb4)))
  go_wp2_with fail
  go_ret
  exact ⟨(by rw [HZ.out]; rfl), HB0.out⟩

def aheadC (l' : List Tk) (t : Tk) : Bool := decide (ofC l' t.k < t.n)

set_option maxHeartbeats 400000 in
theorem indexAhead_any (B : Nat) (A A' : Option Addr) (c c' : Nat) (l l' : List Tk) (w : World) (h : In w A c l) (h' : In w A' c' l') (hB : B < w.heap.size) (hcB : w.cell? ⟨B, 0, none⟩ = some (.slice A' l'.length c')) (ha : Asc l') (hlen : l'.length ≤ 1000) :
    Calls Try.prog 30 #[.slice A l.length c, .func (.func 32) #[] #[.pointer (some ⟨B, 0, none⟩)]] w (RetIx w (l.any (aheadC l'))) := by
  obtain ⟨hl, hcap, htop, -⟩ := h
  have hlm : l.length ≤ 9223372036854775807 := by unfold maxLen at htop; omega
  have HA := Lib.hid h'
  have HS := Lib.hid ha
  have HCB := Lib.hid hcB
  have HB := Lib.hid hB
  clear hcap htop h' ha hcB hB
  go_enter Try.func30, Try.ntmps30
  go_wp2_with fail
  go_loopw [8] (fun iv wr => ∃ k : Nat, k ≤ l.length ∧ iv = .int .i64 k ∧ Hid ((l.take k).any (aheadC l') = false) ∧ Below w.heap.size w wr) (fun iv _ => l.length - (intOf iv).toNat)
  case atStart => exact ⟨0, Nat.zero_le _, rfl, by simp [Hid], Below.refl _ _⟩
  case round =>
    obtain ⟨k, hk, rfl, h0, hbw⟩ := hrel
    by_cases hlt : k < l.length
    · obtain ⟨b, off, rfl, hb, hc⟩ := (hl.below hbw).get hlt
      obtain ⟨x, hx⟩ : ∃ x, l[k]? = some x := ⟨_, List.getElem?_eq_getElem hlt⟩
      obtain ⟨hc0, hc1⟩ := hc k x hx
      have HX := Lib.hid hx
      clear hx hc hl
      obtain ⟨xk, xn⟩ := x
      dsimp only at hc0 hc1
      obtain ⟨q, hq⟩ : ∃ q, aheadC l' ⟨xk, xn⟩ = q := ⟨_, rfl⟩
      have HQ := Lib.hid hq
      have HQ2 : Hid (decide (ofC l' xk < xn) = q) := hq
      clear hq
      go_wp2_with fail
      refine (ahead_any B A' c' l' xk xn wr (Nat.lt_of_lt_of_le HB.out hbw.size) ((hbw.cell (p := ⟨B, 0, none⟩) HB.out).trans HCB.out) (HA.out.later hbw) HS.out hlen).mono ?_
      rintro e w' ⟨rfl, hb2⟩
      have hb3 : Below w.heap.size w w' := hbw.trans (hb2.mono hbw.size)
      rw [HQ2.out]
      cases q with
      | true =>
        go_wp2_with fail
        go_ret
        exact ⟨_, rfl, (by rw [any_yes HX.out HQ.out]; exact decide_eq_true (by omega)), hb3⟩
      | false =>
        go_wp2_with fail
        go_roundw
        case rel => exact ⟨k + 1, by omega, by go_num, any_succ h0.out HX.out HQ.out, hb3⟩
        case measure => simp [intOf]; omega
    · go_wp2_with fail
      go_ret
      exact ⟨_, rfl, (by rw [any_end h0.out (by omega)]; rfl), hbw⟩

set_option maxHeartbeats 400000 in
theorem containsAhead_any (B : Nat) (A A' : Option Addr) (c c' : Nat) (l l' : List Tk) (w : World) (h : In w A c l) (h' : In w A' c' l') (hB : B < w.heap.size) (hcB : w.cell? ⟨B, 0, none⟩ = some (.slice A' l'.length c')) (ha : Asc l') (hlen : l'.length ≤ 1000) :
    Calls Try.prog 20 #[.slice A l.length c, .func (.func 32) #[] #[.pointer (some ⟨B, 0, none⟩)]] w (RetV w (.bool (l.any (aheadC l')))) := by
  have HI0 := Lib.hid (indexAhead_any B A A' c c' l l' w h h' hB hcB ha hlen)
  clear h h' hB hcB ha
  go_enter Try.func20, Try.ntmps20
  go_wp2_with fail
  refine HI0.out.mono ?_
  rintro e w' ⟨i, rfl, hi, hb⟩
  have HI := Lib.hid hi
  clear hi
  go_wp2_with fail
  go_ret
  exact ⟨ret_bool HI.out, hb⟩

theorem under_any (l l' : List Tk) : (!l.any (aheadC l')) = underC l l' := by
  unfold underC
  induction l with
  | nil => rfl
  | cons x l ih =>
    rw [List.any_cons, List.all_cons, Bool.not_or, ih]
    congr 1
    unfold aheadC
    by_cases h : ofC l' x.k < x.n
    · rw [decide_eq_true h, decide_eq_false (by omega)]; rfl
    · rw [decide_eq_false h, decide_eq_true (by omega)]; rfl

set_option maxHeartbeats 400000 in
theorem within_any (A A' : Option Addr) (c c' : Nat) (l l' : List Tk) (w : World) (h : In w A c l) (h' : In w A' c' l') (ha : Asc l') (hlen : l'.length ≤ 1000) :
    Calls Try.prog 27 #[.slice A l.length c, .slice A' l'.length c'] w (RetV w (.bool (underC l l'))) := by
  have HB0 : Hid (Below w.heap.size w (w.alloc (.cells #[.slice A' l'.length c'] 22))) := allocB _ _
  have HC0 := Lib.hid (containsAhead_any w.heap.size A A' c c' l l' _ (h.later HB0.out) (h'.later HB0.out) (by simp) (by simp) ha hlen)
  clear h h' ha
  go_enter Try.func27, Try.ntmps27
  go_wp2_with fail
  refine HC0.out.mono ?_
  rintro e w' ⟨rfl, hb⟩
  go_wp2_with fail
  go_ret
  exact ⟨ret_bool (under_any l l'), HB0.out.trans (hb.mono HB0.out.size)⟩

set_option maxHeartbeats 400000 in
theorem Cmp_any (A A' : Option Addr) (c c' : Nat) (l l' : List Tk) (w : World) (h : In w A c l) (h' : In w A' c' l') (ha : Asc l) (ha' : Asc l') (hlen : l.length ≤ 1000) (hlen' : l'.length ≤ 1000) :
    Calls Try.prog 16 #[.slice A l.length c, .slice A' l'.length c'] w (RetV w (.int .i64 (cmpC l l'))) := by
  have HA := Lib.hid h
  have HB := Lib.hid h'
  have HS := Lib.hid ha
  have HS' := Lib.hid ha'
  clear h h' ha ha'
  obtain ⟨p, hp⟩ : ∃ p, underC l l' = p := ⟨_, rfl⟩
  obtain ⟨q, hq⟩ : ∃ q, underC l' l = q := ⟨_, rfl⟩
  have HC : Hid (cmpC l l' = cmpB p q) := by show cmpC l l' = _; unfold cmpC; rw [hp, hq]
  have HP := Lib.hid hp
  have HQ := Lib.hid hq
  clear hp hq
  rw [HC.out]
  go_enter Try.func16, Try.ntmps16
  go_wp2_with fail
  refine (within_any A A' c c' l l' w HA.out HB.out HS'.out hlen').mono ?_
  rintro e w1 ⟨rfl, hb1⟩
  rw [HP.out]
  go_wp2_with fail
  refine (within_any A' A c' c l' l w1 (HB.out.later hb1) (HA.out.later hb1) HS.out hlen).mono ?_
  rintro e w2 ⟨rfl, hb2⟩
  rw [HQ.out]
  have hb3 : Below w.heap.size w w2 := hb1.trans (hb2.mono hb1.size)
  cases p <;> cases q
  all_goals
    go_wp2_with fail
    go_ret
    exact ⟨rfl, hb3⟩
end Go.Proofs.Ytahjlckdjlafpaa
