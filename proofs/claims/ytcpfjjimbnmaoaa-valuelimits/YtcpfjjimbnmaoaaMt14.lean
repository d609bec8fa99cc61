/- What clock.within and clock.Cmp do. No condition but that the ticks lie in memory and rise, at most 1000. What value.long, value.texts, value.written do, and slices.IndexFunc, slices.ContainsFunc with long. No condition but that the texts lie in memory. What value.blank and value.stripped do. No condition. What value.written, value.idle do, and slices.IndexFunc, slices.ContainsFunc with idle. No condition but that what is handed in lies in memory. What value.byTick, slices.CompareFunc with it, cmp.Or of two, cmp.Compare of numbers do. No condition but that the ticks lie in memory. What value.twos gives: any two of a row of clocks. No condition but that they lie in memory. -/
import Derived.Test.YtcpfjjimbnmaoaaMt13
import Derived.Test.YtcpfjjimbnmaoaaMt07
import Derived.Test.YtcpfjjimbnmaoaaMt12
namespace Go.Proofs.Ytcpfjjimbnmaoaa.C3
open Go.RowKit

set_option maxHeartbeats 400000 in
theorem ahead_any (B : Nat) (A : Option Addr) (c : Nat) (l : List Tk) (xk xn : Int) (w : World) (hB : B < w.heap.size) (hc : w.cell? ⟨B, 0, none⟩ = some (.slice A l.length c)) (h : In w A c l) (ha : Asc l) (hlen : l.length ≤ 1000) :
    Calls Try.prog 104 #[.agg #[.int .i64 xk, .int .u64 xn], .pointer (some ⟨B, 0, none⟩)] w (RetV w (.bool (decide (ofC l xk < xn)))) := by
  have HB0 : Hid (Below w.heap.size w (w.alloc (.cells #[.int .i64 xk, .int .u64 xn] 39)).drew) := (allocB _ _).drew
  have HA := Lib.hid (h.later HB0.out)
  have HS := Lib.hid ha
  clear h ha
  go_enter Try.func104, Try.ntmps104
  go_wp2_with fail
  have e0 : (w.alloc (.cells #[.int .i64 xk, .int .u64 xn] 39)).cell? ⟨w.heap.size, 0, none⟩ = some (.int .i64 xk) := by simp
  have e1 : (w.alloc (.cells #[.int .i64 xk, .int .u64 xn] 39)).cell? ⟨w.heap.size, 1, none⟩ = some (.int .u64 xn) := by simp
  have e2 : (w.alloc (.cells #[.int .i64 xk, .int .u64 xn] 39)).cell? ⟨B, 0, none⟩ = some (.slice A l.length c) := ((allocB w _).cell (p := ⟨B, 0, none⟩) hB).trans hc
  generalize (w.alloc (.cells #[.int .i64 xk, .int .u64 xn] 39)) = W0 at *
  have hB2 : B < W0.heap.size := World.block_lt_of_cell? W0 _ e2
  have hs2 : w.heap.size < W0.heap.size := World.block_lt_of_cell? W0 _ e0
  obtain ⟨z, hz⟩ : ∃ z, ofC l xk = z := ⟨_, rfl⟩
  have HZ := Lib.hid hz
  clear hB hc hz
  go_region_held3 (fun w' => w'.cell? ⟨w.heap.size, 0, none⟩ = some (.int .i64 xk) ∧ w'.cell? ⟨w.heap.size, 1, none⟩ = some (.int .u64 xn) ∧ w'.cell? ⟨B, 0, none⟩ = some (.slice A l.length c))
    (first
      | exact ⟨e0, e1, e2⟩)
    (first
      | (go_at_call 105; refine (Of_any A c l xk _ HA.out HS.out hlen).mono ?_; rintro e w4 ⟨rfl, hb4⟩; (rw [HZ.out]; replace e0 := (hb4.cell (p := ⟨w.heap.size, 0, none⟩) hs2).trans e0; replace e1 := (hb4.cell (p := ⟨w.heap.size, 1, none⟩) hs2).trans e1; replace e2 := (hb4.cell (p := ⟨B, 0, none⟩) hB2).trans e2; replace HB0 : Hid (Below w.heap.size w w4) := HB0.out.trans (hb4.mono HB0.out.size); clear hb4)))
  go_wp2_with fail
  go_ret
  exact ⟨(by rw [HZ.out]; rfl), HB0.out⟩

def aheadC (l' : List Tk) (t : Tk) : Bool := decide (ofC l' t.k < t.n)

set_option maxHeartbeats 400000 in
theorem indexAhead_any (B : Nat) (A A' : Option Addr) (c c' : Nat) (l l' : List Tk) (w : World) (h : In w A c l) (h' : In w A' c' l') (hB : B < w.heap.size) (hcB : w.cell? ⟨B, 0, none⟩ = some (.slice A' l'.length c')) (ha : Asc l') (hlen : l'.length ≤ 1000) :
    Calls Try.prog 101 #[.slice A l.length c, .func (.func 104) #[] #[.pointer (some ⟨B, 0, none⟩)]] w (RetIx w (l.any (aheadC l'))) := by
  obtain ⟨hl, hcap, htop, -⟩ := h
  have hlm : l.length ≤ 9223372036854775807 := by unfold maxLen at htop; omega
  have HA := Lib.hid h'
  have HS := Lib.hid ha
  have HCB := Lib.hid hcB
  have HB := Lib.hid hB
  clear hcap htop h' ha hcB hB
  go_enter Try.func101, Try.ntmps101
  go_wp2_with fail
  go_loopw [8] (fun iv wr => ∃ k : Nat, k ≤ l.length ∧ iv = .int .i64 k ∧ Hid ((l.take k).any (aheadC l') = false) ∧ Below w.heap.size w wr) (fun iv _ => l.length - (intOf iv).toNat)
  case atStart => exact ⟨0, Nat.zero_le _, rfl, by simp [Hid], Below.refl _ _⟩
  case round =>
    obtain ⟨k, hk, rfl, h0, hbw⟩ := hrel
    by_cases hlt : k < l.length
    · obtain ⟨b, off, rfl, hb, hc⟩ := (hl.below hbw).get hlt
      obtain ⟨x, hx⟩ : ∃ x, l[k]? = some x := ⟨_, List.getElem?_eq_getElem hlt⟩
      obtain ⟨hc0, hc1⟩ := hc k x hx
      have HX := Lib.hid hx
      clear hx hc hl
      obtain ⟨xk, xn⟩ := x
      dsimp only at hc0 hc1
      obtain ⟨q, hq⟩ : ∃ q, aheadC l' ⟨xk, xn⟩ = q := ⟨_, rfl⟩
      have HQ := Lib.hid hq
      have HQ2 : Hid (decide (ofC l' xk < xn) = q) := hq
      clear hq
      go_wp2_with fail
      refine (ahead_any B A' c' l' xk xn wr (Nat.lt_of_lt_of_le HB.out hbw.size) ((hbw.cell (p := ⟨B, 0, none⟩) HB.out).trans HCB.out) (HA.out.later hbw) HS.out hlen).mono ?_
      rintro e w' ⟨rfl, hb2⟩
      have hb3 : Below w.heap.size w w' := hbw.trans (hb2.mono hbw.size)
      rw [HQ2.out]
      cases q with
      | true =>
        go_wp2_with fail
        go_ret
        exact ⟨_, rfl, (by rw [any_yes HX.out HQ.out]; exact decide_eq_true (by omega)), hb3⟩
      | false =>
        go_wp2_with fail
        go_roundw
        case rel => exact ⟨k + 1, by omega, by go_num, any_succ h0.out HX.out HQ.out, hb3⟩
        case measure => simp [intOf]; omega
    · go_wp2_with fail
      go_ret
      exact ⟨_, rfl, (by rw [any_end h0.out (by omega)]; rfl), hbw⟩

set_option maxHeartbeats 400000 in
theorem containsAhead_any (B : Nat) (A A' : Option Addr) (c c' : Nat) (l l' : List Tk) (w : World) (h : In w A c l) (h' : In w A' c' l') (hB : B < w.heap.size) (hcB : w.cell? ⟨B, 0, none⟩ = some (.slice A' l'.length c')) (ha : Asc l') (hlen : l'.length ≤ 1000) :
    Calls Try.prog 92 #[.slice A l.length c, .func (.func 104) #[] #[.pointer (some ⟨B, 0, none⟩)]] w (RetV w (.bool (l.any (aheadC l')))) := by
  have HI0 := Lib.hid (indexAhead_any B A A' c c' l l' w h h' hB hcB ha hlen)
  clear h h' hB hcB ha
  go_enter Try.func92, Try.ntmps92
  go_wp2_with fail
  refine HI0.out.mono ?_
  rintro e w' ⟨i, rfl, hi, hb⟩
  have HI := Lib.hid hi
  clear hi
  go_wp2_with fail
  go_ret
  exact ⟨ret_bool HI.out, hb⟩

theorem under_any (l l' : List Tk) : (!l.any (aheadC l')) = underC l l' := by
  unfold underC
  induction l with
  | nil => rfl
  | cons x l ih =>
    rw [List.any_cons, List.all_cons, Bool.not_or, ih]
    congr 1
    unfold aheadC
    by_cases h : ofC l' x.k < x.n
    · rw [decide_eq_true h, decide_eq_false (by omega)]; rfl
    · rw [decide_eq_false h, decide_eq_true (by omega)]; rfl

set_option maxHeartbeats 400000 in
theorem within_any (A A' : Option Addr) (c c' : Nat) (l l' : List Tk) (w : World) (h : In w A c l) (h' : In w A' c' l') (ha : Asc l') (hlen : l'.length ≤ 1000) :
    Calls Try.prog 99 #[.slice A l.length c, .slice A' l'.length c'] w (RetV w (.bool (underC l l'))) := by
  have HB0 : Hid (Below w.heap.size w (w.alloc (.cells #[.slice A' l'.length c'] 40))) := allocB _ _
  have HC0 := Lib.hid (containsAhead_any w.heap.size A A' c c' l l' _ (h.later HB0.out) (h'.later HB0.out) (by simp) (by simp) ha hlen)
  clear h h' ha
  go_enter Try.func99, Try.ntmps99
  go_wp2_with fail
  refine HC0.out.mono ?_
  rintro e w' ⟨rfl, hb⟩
  go_wp2_with fail
  go_ret
  exact ⟨ret_bool (under_any l l'), HB0.out.trans (hb.mono HB0.out.size)⟩

set_option maxHeartbeats 400000 in
theorem Cmp_any (A A' : Option Addr) (c c' : Nat) (l l' : List Tk) (w : World) (h : In w A c l) (h' : In w A' c' l') (ha : Asc l) (ha' : Asc l') (hlen : l.length ≤ 1000) (hlen' : l'.length ≤ 1000) :
    Calls Try.prog 86 #[.slice A l.length c, .slice A' l'.length c'] w (RetV w (.int .i64 (cmpC l l'))) := by
  have HA := Lib.hid h
  have HB := Lib.hid h'
  have HS := Lib.hid ha
  have HS' := Lib.hid ha'
  clear h h' ha ha'
  obtain ⟨p, hp⟩ : ∃ p, underC l l' = p := ⟨_, rfl⟩
  obtain ⟨q, hq⟩ : ∃ q, underC l' l = q := ⟨_, rfl⟩
  have HC : Hid (cmpC l l' = cmpB p q) := by show cmpC l l' = _; unfold cmpC; rw [hp, hq]
  have HP := Lib.hid hp
  have HQ := Lib.hid hq
  clear hp hq
  rw [HC.out]
  go_enter Try.func86, Try.ntmps86
  go_wp2_with fail
  refine (within_any A A' c c' l l' w HA.out HB.out HS'.out hlen').mono ?_
  rintro e w1 ⟨rfl, hb1⟩
  rw [HP.out]
  go_wp2_with fail
  refine (within_any A' A c' c l' l w1 (HB.out.later hb1) (HA.out.later hb1) HS.out hlen).mono ?_
  rintro e w2 ⟨rfl, hb2⟩
  rw [HQ.out]
  have hb3 : Below w.heap.size w w2 := hb1.trans (hb2.mono hb1.size)
  cases p <;> cases q
  all_goals
    go_wp2_with fail
    go_ret
    exact ⟨rfl, hb3⟩
end Go.Proofs.Ytcpfjjimbnmaoaa.C3

namespace Go.Proofs.Ytcpfjjimbnmaoaa.V4
open Go.RowKit
open C3 (RetIx)

def longS (s : Str) : Bool := decide (16 < s.length)

theorem any_succ {α : Type} {p : α → Bool} {l : List α} {k : Nat} {x : α} (h0 : (l.take k).any p = false) (hx : l[k]? = some x) (h : p x = false) : (l.take (k + 1)).any p = false := by
  obtain ⟨hi, he⟩ := List.getElem?_eq_some_iff.1 hx
  rw [List.take_succ_eq_append_getElem hi, List.any_append, h0, he]
  simp [h]
theorem any_end {α : Type} {p : α → Bool} {l : List α} {k : Nat} (h0 : (l.take k).any p = false) (h : l.length ≤ k) : l.any p = false := by rwa [List.take_of_length_le h] at h0
theorem any_yes {α : Type} {p : α → Bool} {l : List α} {k : Nat} {x : α} (hx : l[k]? = some x) (h : p x = true) : l.any p = true := List.any_eq_true.2 ⟨x, List.mem_of_getElem? hx, h⟩

set_option maxHeartbeats 400000 in
theorem long_any (s : Str) (w : World) (hs : s.length ≤ maxLen) : Calls Try.prog 78 #[.string (S s)] w (RetV w (.bool (longS s))) := by
  have hsz := S_size s
  have hlm : s.length ≤ 9223372036854775807 := by unfold maxLen at hs; omega
  clear hs
  go_enter Try.func78, Try.ntmps78
  go_wp2_with fail
  go_ret
  refine ⟨ret_bool ?_, Below.refl _ _⟩
  unfold longS
  rw [decide_eq_decide]
  omega

set_option maxHeartbeats 400000 in
theorem indexLong_any (A : Option Addr) (c : Nat) (ss : List Str) (w : World) (hl : Lies w A ss) (hn : ss.length ≤ maxLen) (ht : ∀ s ∈ ss, s.length ≤ maxLen) :
    Calls Try.prog 89 #[.slice A ss.length c, .func (.func 78) #[] #[]] w (RetIx w (ss.any longS)) := by
  have hlm : ss.length ≤ 9223372036854775807 := by unfold maxLen at hn; omega
  clear hn
  have HT := Lib.hid ht
  clear ht
  go_enter Try.func89, Try.ntmps89
  go_wp2_with fail
  go_loopw [8] (fun iv wr => ∃ k : Nat, k ≤ ss.length ∧ iv = .int .i64 k ∧ Hid ((ss.take k).any longS = false) ∧ Below w.heap.size w wr) (fun iv _ => ss.length - (intOf iv).toNat)
  case atStart => exact ⟨0, Nat.zero_le _, rfl, by simp [Hid], Below.refl _ _⟩
  case round =>
    obtain ⟨k, hk, rfl, h0, hbw⟩ := hrel
    by_cases hlt : k < ss.length
    · obtain ⟨b, off, rfl, hb, hc⟩ := (hl.below hbw).get hlt
      obtain ⟨x, hx⟩ : ∃ x, ss[k]? = some x := ⟨_, List.getElem?_eq_getElem hlt⟩
      have hc0 := hc k x hx
      have HX := Lib.hid hx
      clear hx hc hl
      obtain ⟨q, hq⟩ : ∃ q, longS x = q := ⟨_, rfl⟩
      have HQ := Lib.hid hq
      clear hq
      go_wp2_with fail
      refine (long_any x wr (HT.out x (List.mem_of_getElem? HX.out))).mono ?_
      rintro e w' ⟨rfl, hb2⟩
      have hb3 : Below w.heap.size w w' := hbw.trans (hb2.mono hbw.size)
      rw [HQ.out]
      cases q with
      | true =>
        go_wp2_with fail
        go_ret
        exact ⟨_, rfl, (by rw [any_yes HX.out HQ.out]; exact decide_eq_true (by omega)), hb3⟩
      | false =>
        go_wp2_with fail
        go_roundw
        case rel => exact ⟨k + 1, by omega, by go_num, any_succ h0.out HX.out HQ.out, hb3⟩
        case measure => simp [intOf]; omega
    · go_wp2_with fail
      go_ret
      exact ⟨_, rfl, (by rw [any_end h0.out (by omega)]; rfl), hbw⟩

set_option maxHeartbeats 400000 in
theorem containsLong_any (A : Option Addr) (c : Nat) (ss : List Str) (w : World) (hl : Lies w A ss) (hn : ss.length ≤ maxLen) (ht : ∀ s ∈ ss, s.length ≤ maxLen) :
    Calls Try.prog 77 #[.slice A ss.length c, .func (.func 78) #[] #[]] w (RetV w (.bool (ss.any longS))) := by
  have HA := Lib.hid (indexLong_any A c ss w hl hn ht)
  clear hl hn ht
  go_enter Try.func77, Try.ntmps77
  go_wp2_with fail
  refine HA.out.mono ?_
  rintro e w' ⟨i, rfl, hi, hb⟩
  have HI := Lib.hid hi
  clear hi
  go_wp2_with fail
  go_ret
  exact ⟨ret_bool HI.out, hb⟩

/-- What a set's texts must be. -/
def textsS (ss : List Str) : Bool := decide (ss.length ≤ 40) && (decide (R1.Srt ss) && !ss.any longS)

set_option maxHeartbeats 400000 in
theorem texts_any (A : Option Addr) (c : Nat) (ss : List Str) (w : World) (hl : Lies w A ss) (hn : ss.length ≤ maxLen) (ht : ∀ s ∈ ss, s.length ≤ maxLen) :
    Calls Try.prog 64 #[.slice A ss.length c] w (RetV w (.bool (textsS ss))) := by
  have HL := Lib.hid hl
  have HN := Lib.hid hn
  have HT := Lib.hid ht
  have hlm : ss.length ≤ 9223372036854775807 := by unfold maxLen at hn; omega
  clear hl hn ht
  by_cases h40 : ss.length ≤ 40
  · obtain ⟨q, hq⟩ : ∃ q, decide (R1.Srt ss) = q := ⟨_, rfl⟩
    have HQ := Lib.hid hq
    have hr : textsS ss = (q && !ss.any longS) := by unfold textsS; rw [decide_eq_true h40, hq]; rfl
    rw [hr]
    clear hq hr
    have h41 : (ss.length : Int) ≤ 40 := by omega
    go_enter Try.func64, Try.ntmps64
    go_wp2_with fail
    refine (R1.is_any A c ss w HL.out HN.out).mono ?_
    rintro e w' ⟨rfl, n, rfl⟩
    rw [HQ.out]
    cases q with
    | true =>
      go_wp2_with fail
      refine (containsLong_any A c ss _ (HL.out.drewN n) HN.out HT.out).mono ?_
      rintro e w' ⟨rfl, hb⟩
      go_wp2_with fail
      go_ret
      exact ⟨rfl, (below_drewN (Below.refl _ _) n).trans hb⟩
    | false =>
      go_wp2_with fail
      go_ret
      exact ⟨rfl, below_drewN (Below.refl _ _) n⟩
  · have hr : textsS ss = false := by unfold textsS; rw [decide_eq_false h40]; rfl
    rw [hr]
    have h41 : ¬ (ss.length : Int) ≤ 40 := by omega
    clear h40 hr
    go_enter Try.func64, Try.ntmps64
    go_wp2_with fail
    go_ret
    exact ⟨rfl, Below.refl _ _⟩
end Go.Proofs.Ytcpfjjimbnmaoaa.V4

namespace Go.Proofs.Ytcpfjjimbnmaoaa.V4
open Go.RowKit


set_option maxHeartbeats 1000000 in
theorem blank_any (n m : Int) (sA : Option Addr) (sc a : Nat) (cA : Option Addr) (cc b : Nat) (vA : Option Addr) (vc d : Nat) (w : World) : Calls Try.prog 30 #[.agg #[.int .u64 n, .int .u64 m, .slice sA a sc, .slice cA b cc, .slice vA d vc]] w (RetV w (.bool (hasN n m a b d false false false false false))) := by
  have belB : Below w.heap.size w (w.alloc (.cells #[.int .u64 n, .int .u64 m, .slice sA a sc, .slice cA b cc, .slice vA d vc] 30)) := C3.belAl (Below.refl _ _)
  by_cases h0 : n = 0
  case neg =>
    have HR : Hid (hasN n m a b d false false false false false = false) := by show hasN _ _ _ _ _ _ _ _ _ _ = _; simp [hasN, h0]
    have k0 : (n == 0) = false := by simp; omega
    clear h0
    go_enter Try.func30, Try.ntmps30
    go_wp2_with fail
    go_ret
    exact ⟨ret_bool HR.out.symm, belB⟩
  by_cases h1 : m = 0
  case neg =>
    have HR : Hid (hasN n m a b d false false false false false = false) := by show hasN _ _ _ _ _ _ _ _ _ _ = _; simp [hasN, h0, h1]
    have k0 : (n == 0) = true := by simp [h0]
    have k1 : (m == 0) = false := by simp; omega
    clear h0 h1
    go_enter Try.func30, Try.ntmps30
    go_wp2_with fail
    go_ret
    exact ⟨ret_bool HR.out.symm, belB⟩
  by_cases h2 : a = 0
  case neg =>
    have HR : Hid (hasN n m a b d false false false false false = false) := by show hasN _ _ _ _ _ _ _ _ _ _ = _; simp [hasN, h0, h1, h2]
    have k0 : (n == 0) = true := by simp [h0]
    have k1 : (m == 0) = true := by simp [h1]
    have k2 : ((a : Int) == 0) = false := by simp; omega
    clear h0 h1 h2
    go_enter Try.func30, Try.ntmps30
    go_wp2_with fail
    go_ret
    exact ⟨ret_bool HR.out.symm, belB⟩
  by_cases h3 : b = 0
  case neg =>
    have HR : Hid (hasN n m a b d false false false false false = false) := by show hasN _ _ _ _ _ _ _ _ _ _ = _; simp [hasN, h0, h1, h2, h3]
    have k0 : (n == 0) = true := by simp [h0]
    have k1 : (m == 0) = true := by simp [h1]
    have k2 : ((a : Int) == 0) = true := by simp; omega
    have k3 : ((b : Int) == 0) = false := by simp; omega
    clear h0 h1 h2 h3
    go_enter Try.func30, Try.ntmps30
    go_wp2_with fail
    go_ret
    exact ⟨ret_bool HR.out.symm, belB⟩
  by_cases h4 : d = 0
  case neg =>
    have HR : Hid (hasN n m a b d false false false false false = false) := by show hasN _ _ _ _ _ _ _ _ _ _ = _; simp [hasN, h0, h1, h2, h3, h4]
    have k0 : (n == 0) = true := by simp [h0]
    have k1 : (m == 0) = true := by simp [h1]
    have k2 : ((a : Int) == 0) = true := by simp; omega
    have k3 : ((b : Int) == 0) = true := by simp; omega
    have k4 : ((d : Int) == 0) = false := by simp; omega
    clear h0 h1 h2 h3 h4
    go_enter Try.func30, Try.ntmps30
    go_wp2_with fail
    go_ret
    exact ⟨ret_bool HR.out.symm, belB⟩
  have HR : Hid (hasN n m a b d false false false false false = true) := by show hasN _ _ _ _ _ _ _ _ _ _ = _; simp [hasN, h0, h1, h2, h3, h4]
  have k0 : (n == 0) = true := by simp [h0]
  have k1 : (m == 0) = true := by simp [h1]
  have k2 : ((a : Int) == 0) = true := by simp [h2]
  have k3 : ((b : Int) == 0) = true := by simp [h3]
  have k4 : ((d : Int) == 0) = true := by simp [h4]
  clear h0 h1 h2 h3 h4
  go_enter Try.func30, Try.ntmps30
  go_wp2_with fail
  go_ret
  exact ⟨ret_bool HR.out.symm, belB⟩

/-- A call that answers a value of which blank says v. -/
def RetB (w : World) (v : Bool) (e : Ending) (w' : World) : Prop := ∃ (n m : Int) (sA : Option Addr) (sc a : Nat) (cA : Option Addr) (cc b : Nat) (vA : Option Addr) (vc d : Nat), e = .returned (.agg #[.int .u64 n, .int .u64 m, .slice sA a sc, .slice cA b cc, .slice vA d vc]) ∧ hasN n m a b d false false false false false = v ∧ Below w.heap.size w w'

set_option maxHeartbeats 1000000 in
theorem stripped_1 (n m : Int) (sA : Option Addr) (sc a : Nat) (cA : Option Addr) (cc b : Nat) (vA : Option Addr) (vc d : Nat) (w : World) : Calls Try.prog 45 #[.int .i64 1, .agg #[.int .u64 n, .int .u64 m, .slice sA a sc, .slice cA b cc, .slice vA d vc]] w (RetB w (hasN n m a b d true false false false false)) := by
  go_enter Try.func45, Try.ntmps45
  go_wp2_with fail
  refine bodyPost_ret (results_cellV rfl _ _ (w.heap.size + 1) (.int .u64 0) (.int .u64 m) (.slice sA a sc) (.slice cA b cc) (.slice vA d vc) rfl (by go_simp) (by go_simp) (by go_simp) (by go_simp) (by go_simp)) rfl ?_
  refine ⟨_, _, _, _, _, _, _, _, _, _, _, rfl, by simp [hasN], ?_⟩
  exact C3.belAl (C3.belAl (Below.refl _ _))

set_option maxHeartbeats 1000000 in
theorem stripped_2 (n m : Int) (sA : Option Addr) (sc a : Nat) (cA : Option Addr) (cc b : Nat) (vA : Option Addr) (vc d : Nat) (w : World) : Calls Try.prog 45 #[.int .i64 2, .agg #[.int .u64 n, .int .u64 m, .slice sA a sc, .slice cA b cc, .slice vA d vc]] w (RetB w (hasN n m a b d true false false false false)) := by
  go_enter Try.func45, Try.ntmps45
  go_wp2_with fail
  refine bodyPost_ret (results_cellV rfl _ _ (w.heap.size + 1) (.int .u64 0) (.int .u64 m) (.slice sA a sc) (.slice cA b cc) (.slice vA d vc) rfl (by go_simp) (by go_simp) (by go_simp) (by go_simp) (by go_simp)) rfl ?_
  refine ⟨_, _, _, _, _, _, _, _, _, _, _, rfl, by simp [hasN], ?_⟩
  exact C3.belAl (C3.belAl (Below.refl _ _))

set_option maxHeartbeats 1000000 in
theorem stripped_3 (n m : Int) (sA : Option Addr) (sc a : Nat) (cA : Option Addr) (cc b : Nat) (vA : Option Addr) (vc d : Nat) (w : World) : Calls Try.prog 45 #[.int .i64 3, .agg #[.int .u64 n, .int .u64 m, .slice sA a sc, .slice cA b cc, .slice vA d vc]] w (RetB w (hasN n m a b d false false true false false)) := by
  go_enter Try.func45, Try.ntmps45
  go_wp2_with fail
  refine bodyPost_ret (results_cellV rfl _ _ (w.heap.size + 1) (.int .u64 n) (.int .u64 m) (.slice none 0 0) (.slice cA b cc) (.slice vA d vc) rfl (by go_simp) (by go_simp) (by go_simp) (by go_simp) (by go_simp)) rfl ?_
  refine ⟨_, _, _, _, _, _, _, _, _, _, _, rfl, by simp [hasN], ?_⟩
  exact C3.belAl (C3.belAl (Below.refl _ _))

set_option maxHeartbeats 1000000 in
theorem stripped_4 (n m : Int) (sA : Option Addr) (sc a : Nat) (cA : Option Addr) (cc b : Nat) (vA : Option Addr) (vc d : Nat) (w : World) : Calls Try.prog 45 #[.int .i64 4, .agg #[.int .u64 n, .int .u64 m, .slice sA a sc, .slice cA b cc, .slice vA d vc]] w (RetB w (hasN n m a b d false false true false true)) := by
  go_enter Try.func45, Try.ntmps45
  go_wp2_with fail
  refine bodyPost_ret (results_cellV rfl _ _ (w.heap.size + 1) (.int .u64 n) (.int .u64 m) (.slice none 0 0) (.slice cA b cc) (.slice none 0 0) rfl (by go_simp) (by go_simp) (by go_simp) (by go_simp) (by go_simp)) rfl ?_
  refine ⟨_, _, _, _, _, _, _, _, _, _, _, rfl, by simp [hasN], ?_⟩
  exact C3.belAl (C3.belAl (Below.refl _ _))

set_option maxHeartbeats 1000000 in
theorem stripped_5 (n m : Int) (sA : Option Addr) (sc a : Nat) (cA : Option Addr) (cc b : Nat) (vA : Option Addr) (vc d : Nat) (w : World) : Calls Try.prog 45 #[.int .i64 5, .agg #[.int .u64 n, .int .u64 m, .slice sA a sc, .slice cA b cc, .slice vA d vc]] w (RetB w (hasN n m a b d false false false false true)) := by
  go_enter Try.func45, Try.ntmps45
  go_wp2_with fail
  refine bodyPost_ret (results_cellV rfl _ _ (w.heap.size + 1) (.int .u64 n) (.int .u64 m) (.slice sA a sc) (.slice cA b cc) (.slice none 0 0) rfl (by go_simp) (by go_simp) (by go_simp) (by go_simp) (by go_simp)) rfl ?_
  refine ⟨_, _, _, _, _, _, _, _, _, _, _, rfl, by simp [hasN], ?_⟩
  exact C3.belAl (C3.belAl (Below.refl _ _))

set_option maxHeartbeats 1000000 in
theorem stripped_6 (n m : Int) (sA : Option Addr) (sc a : Nat) (cA : Option Addr) (cc b : Nat) (vA : Option Addr) (vc d : Nat) (w : World) : Calls Try.prog 45 #[.int .i64 6, .agg #[.int .u64 n, .int .u64 m, .slice sA a sc, .slice cA b cc, .slice vA d vc]] w (RetB w (hasN n m a b d true true true false false)) := by
  go_enter Try.func45, Try.ntmps45
  go_wp2_with fail
  refine bodyPost_ret (results_cellV rfl _ _ (w.heap.size + 1) (.int .u64 0) (.int .u64 0) (.slice none 0 0) (.slice cA b cc) (.slice vA d vc) rfl (by go_simp) (by go_simp) (by go_simp) (by go_simp) (by go_simp)) rfl ?_
  refine ⟨_, _, _, _, _, _, _, _, _, _, _, rfl, by simp [hasN], ?_⟩
  exact C3.belAl (C3.belAl (Below.refl _ _))

set_option maxHeartbeats 1000000 in
theorem stripped_7 (n m : Int) (sA : Option Addr) (sc a : Nat) (cA : Option Addr) (cc b : Nat) (vA : Option Addr) (vc d : Nat) (w : World) : Calls Try.prog 45 #[.int .i64 7, .agg #[.int .u64 n, .int .u64 m, .slice sA a sc, .slice cA b cc, .slice vA d vc]] w (RetB w (hasN n m a b d false false false true false)) := by
  go_enter Try.func45, Try.ntmps45
  go_wp2_with fail
  refine bodyPost_ret (results_cellV rfl _ _ (w.heap.size + 1) (.int .u64 n) (.int .u64 m) (.slice sA a sc) (.slice none 0 0) (.slice vA d vc) rfl (by go_simp) (by go_simp) (by go_simp) (by go_simp) (by go_simp)) rfl ?_
  refine ⟨_, _, _, _, _, _, _, _, _, _, _, rfl, by simp [hasN], ?_⟩
  exact C3.belAl (C3.belAl (Below.refl _ _))

set_option maxHeartbeats 1000000 in
theorem stripped_8 (n m : Int) (sA : Option Addr) (sc a : Nat) (cA : Option Addr) (cc b : Nat) (vA : Option Addr) (vc d : Nat) (w : World) : Calls Try.prog 45 #[.int .i64 8, .agg #[.int .u64 n, .int .u64 m, .slice sA a sc, .slice cA b cc, .slice vA d vc]] w (RetB w (hasN n m a b d false false false true true)) := by
  go_enter Try.func45, Try.ntmps45
  go_wp2_with fail
  refine bodyPost_ret (results_cellV rfl _ _ (w.heap.size + 1) (.int .u64 n) (.int .u64 m) (.slice sA a sc) (.slice none 0 0) (.slice none 0 0) rfl (by go_simp) (by go_simp) (by go_simp) (by go_simp) (by go_simp)) rfl ?_
  refine ⟨_, _, _, _, _, _, _, _, _, _, _, rfl, by simp [hasN], ?_⟩
  exact C3.belAl (C3.belAl (Below.refl _ _))

set_option maxHeartbeats 1000000 in
theorem stripped_0 (k : Int) (h : ¬ (1 ≤ k ∧ k ≤ 8)) (n m : Int) (sA : Option Addr) (sc a : Nat) (cA : Option Addr) (cc b : Nat) (vA : Option Addr) (vc d : Nat) (w : World) : Calls Try.prog 45 #[.int .i64 k, .agg #[.int .u64 n, .int .u64 m, .slice sA a sc, .slice cA b cc, .slice vA d vc]] w (RetB w (hasN n m a b d false false false false false)) := by
  have k1 : (k == 1) = false := by simp; omega
  have k2 : (k == 2) = false := by simp; omega
  have k3 : (k == 3) = false := by simp; omega
  have k4 : (k == 4) = false := by simp; omega
  have k5 : (k == 5) = false := by simp; omega
  have k6 : (k == 6) = false := by simp; omega
  have k7 : (k == 7) = false := by simp; omega
  have k8 : (k == 8) = false := by simp; omega
  clear h
  go_enter Try.func45, Try.ntmps45
  go_wp2_with fail
  refine bodyPost_ret (results_cellV rfl _ _ (w.heap.size + 1) (.int .u64 n) (.int .u64 m) (.slice sA a sc) (.slice cA b cc) (.slice vA d vc) rfl (by go_simp) (by go_simp) (by go_simp) (by go_simp) (by go_simp)) rfl ?_
  refine ⟨_, _, _, _, _, _, _, _, _, _, _, rfl, by simp [hasN], ?_⟩
  exact C3.belAl (C3.belAl (Below.refl _ _))

end Go.Proofs.Ytcpfjjimbnmaoaa.V4

namespace Go.Proofs.Ytcpfjjimbnmaoaa.V4
open Go.RowKit
open C3 (RetIx Tk isC)

/-- There is a last writer, and what it wrote is something. -/
def writtenV (n m : Int) (ss : List Str) : Bool := match ss with
  | [s] => !longS s && (decide (n ≠ 0) || (decide (m ≠ 0) || decide (s ≠ [])))
  | _ => false

theorem ibeq {a b : Int} (h : a = b) : (a == b) = true := beq_iff_eq.2 h
theorem ibne {a b : Int} (h : a ≠ b) : (a == b) = false := beq_eq_false_iff_ne.2 h
theorem ibnn {a b : Int} (h : a ≠ b) : (a != b) = true := by simp [h]
theorem beqS_nil (s : Str) : (s == []) = decide (s = []) := by cases s <;> rfl

set_option maxRecDepth 100000 in
set_option maxHeartbeats 1000000 in
theorem written_any (n m : Int) (sA : Option Addr) (sc : Nat) (ss : List Str) (cA : Option Addr) (cc b : Nat) (vA : Option Addr) (vc d : Nat) (w : World) (hn : 0 ≤ n) (hm : 0 ≤ m) (hl : Lies w sA ss) (hlm : ss.length ≤ maxLen) (ht : ∀ s ∈ ss, s.length ≤ maxLen) :
    Calls Try.prog 66 #[.agg #[.int .u64 n, .int .u64 m, .slice sA ss.length sc, .slice cA b cc, .slice vA d vc]] w (RetV w (.bool (writtenV n m ss))) := by
  have belB : Below w.heap.size w (w.alloc (.cells #[.int .u64 n, .int .u64 m, .slice sA ss.length sc, .slice cA b cc, .slice vA d vc] 30)) := C3.belAl (Below.refl _ _)
  by_cases h1 : ss.length = 1
  · obtain ⟨s, rfl⟩ : ∃ s, ss = [s] := List.length_eq_one_iff.1 h1
    clear h1
    obtain ⟨bb, off, rfl, hb, hc⟩ := hl.get (k := 0) (by simp)
    have hc0 := hc 0 s rfl
    rw [Nat.add_zero] at hc0
    have hs : s.length ≤ maxLen := ht s (by simp)
    clear hc hl ht hlm
    have HL := Lib.hid (long_any s (w.alloc (.cells #[.int .u64 n, .int .u64 m, .slice (some ⟨bb, off, none⟩) [s].length sc, .slice cA b cc, .slice vA d vc] 30)) hs)
    simp only [List.length_cons, List.length_nil, Nat.zero_add] at HL belB ⊢
    obtain ⟨q, hq⟩ : ∃ q, longS s = q := ⟨_, rfl⟩
    have hw : writtenV n m [s] = (!q && (decide (n ≠ 0) || (decide (m ≠ 0) || decide (s ≠ [])))) := by simp only [writtenV, hq]
    rw [hw]
    rw [hq] at HL
    clear hw hq hs
    go_enter Try.func66, Try.ntmps66
    go_wp2_with fail
    refine HL.out.mono ?_
    clear HL
    rintro e w' ⟨rfl, hb2⟩
    have hbb := belB.trans (hb2.mono belB.size)
    have e0 := (hb2.cell (p := ⟨w.heap.size, 0, none⟩) (by simp)).trans (alloc_cells 0 _ rfl)
    have e1 := (hb2.cell (p := ⟨w.heap.size, 1, none⟩) (by simp)).trans (alloc_cells 1 _ rfl)
    have e2 := (hb2.cell (p := ⟨w.heap.size, 2, none⟩) (by simp)).trans (alloc_cells 2 _ rfl)
    have f0 := (hbb.cell (p := ⟨bb, off, none⟩) hb).trans hc0
    have hbl := World.block_lt_of_cell? w' _ f0
    simp only at hbl
    clear hb2 belB hc0
    cases q with
    | true =>
      go_wp2_with fail
      go_ret
      exact ⟨rfl, hbb⟩
    | false =>
      by_cases hn0 : n = 0
      · have kn : decide (0 < n) = false := decide_eq_false (by omega)
        by_cases hm0 : m = 0
        · have km : decide (0 < m) = false := decide_eq_false (by omega)
          have HR : Hid ((!decide (s = [])) = (!false && (decide (n ≠ 0) || (decide (m ≠ 0) || decide (s ≠ []))))) := by show _ = _; simp [hn0, hm0]
          by_cases hs0 : s = []
          · have ks : (s == []) = true := by rw [beqS_nil]; exact decide_eq_true hs0
            clear hn0 hm0 hn hm
            go_wp2_with fail
            go_ret
            refine ⟨ret_bool ?_, hbb⟩
            rw [← HR.out, decide_eq_true hs0]; rfl
          · have ks : (s == []) = false := by rw [beqS_nil]; exact decide_eq_false hs0
            clear hn0 hm0 hn hm
            go_wp2_with fail
            go_ret
            refine ⟨ret_bool ?_, hbb⟩
            rw [← HR.out, decide_eq_false hs0]; rfl
        · have km : 0 < m := by omega
          have HR : Hid (true = (!false && (decide (n ≠ 0) || (decide (m ≠ 0) || decide (s ≠ []))))) := by show _ = _; simp [hn0, hm0]
          clear hn0 hm0 hn hm
          go_wp2_with fail
          go_ret
          exact ⟨ret_bool HR.out, hbb⟩
      · have kn : 0 < n := by omega
        have HR : Hid (true = (!false && (decide (n ≠ 0) || (decide (m ≠ 0) || decide (s ≠ []))))) := by show _ = _; simp [hn0]
        clear hn0 hn hm
        go_wp2_with fail
        go_ret
        exact ⟨ret_bool HR.out, hbb⟩
  · have hw : writtenV n m ss = false := by
      unfold writtenV
      split
      · simp at h1
      · rfl
    rw [hw]
    have k1 : ((ss.length : Int) != 1) = true := ibnn (by omega)
    clear h1 hw hl ht hlm
    go_enter Try.func66, Try.ntmps66
    go_wp2_with fail
    go_ret
    exact ⟨rfl, belB⟩

def idleC (c : Ck) : Bool := decide (c.l.length = 0) || !isC c.l

set_option maxHeartbeats 400000 in
theorem idle_any (c : Ck) (w : World) (h : InC w c) : Calls Try.prog 68 #[c.v] w (RetV w (.bool (idleC c))) := by
  have HI := Lib.hid (C3.Is_any c.A c.c c.l w (Ck.Inp.inn h))
  unfold idleC
  clear h
  obtain ⟨A, cp, l⟩ := c
  simp only [Ck.v] at HI ⊢
  by_cases h0 : l.length = 0
  · have k0 : ((l.length : Int) == 0) = true := ibeq (by omega)
    rw [decide_eq_true h0]
    clear h0
    go_enter Try.func68, Try.ntmps68
    go_wp2_with fail
    go_ret
    exact ⟨rfl, Below.refl _ _⟩
  · have k0 : ((l.length : Int) == 0) = false := ibne (by omega)
    rw [decide_eq_false h0]
    clear h0
    go_enter Try.func68, Try.ntmps68
    go_wp2_with fail
    refine HI.out.mono ?_
    rintro e w' ⟨rfl, hb⟩
    go_wp2_with fail
    go_ret
    exact ⟨rfl, hb⟩
set_option maxHeartbeats 400000 in
theorem indexIdle_any (A : Option Addr) (c : Nat) (cs : List Ck) (w : World) (hl : LiesC (fun b => b < w.heap.size) w A (cellsC cs)) (hn : cs.length ≤ maxLen) (ht : ∀ k ∈ cs, InC w k) :
    Calls Try.prog 79 #[.slice A cs.length c, .func (.func 68) #[] #[]] w (RetIx w (cs.any idleC)) := by
  have hlm : cs.length ≤ 9223372036854775807 := by unfold maxLen at hn; omega
  clear hn
  have HT := Lib.hid ht
  clear ht
  go_enter Try.func79, Try.ntmps79
  go_wp2_with fail
  go_loopw [8] (fun iv wr => ∃ k : Nat, k ≤ cs.length ∧ iv = .int .i64 k ∧ Hid ((cs.take k).any idleC = false) ∧ Below w.heap.size w wr) (fun iv _ => cs.length - (intOf iv).toNat)
  case atStart => exact ⟨0, Nat.zero_le _, rfl, by simp [Hid], Below.refl _ _⟩
  case round =>
    obtain ⟨k, hk, rfl, h0, hbw⟩ := hrel
    by_cases hlt : k < cs.length
    · obtain ⟨x, hx⟩ : ∃ x, cs[k]? = some x := ⟨_, List.getElem?_eq_getElem hlt⟩
      obtain ⟨b, off, rfl, hb, hc⟩ := clock_at (hl.below hbw) hx
      have hc0 := hc
      have HX := Lib.hid hx
      clear hx hc hl
      obtain ⟨q, hq⟩ : ∃ q, idleC x = q := ⟨_, rfl⟩
      have HQ := Lib.hid hq
      clear hq
      go_wp2_with fail
      refine (idle_any x wr ((HT.out x (List.mem_of_getElem? HX.out)).later hbw)).mono ?_
      rintro e w' ⟨rfl, hb2⟩
      have hb3 : Below w.heap.size w w' := hbw.trans (hb2.mono hbw.size)
      rw [HQ.out]
      cases q with
      | true =>
        go_wp2_with fail
        go_ret
        exact ⟨_, rfl, (by rw [any_yes HX.out HQ.out]; exact decide_eq_true (by omega)), hb3⟩
      | false =>
        go_wp2_with fail
        go_roundw
        case rel => exact ⟨k + 1, by omega, by go_num, any_succ h0.out HX.out HQ.out, hb3⟩
        case measure => simp [intOf]; omega
    · go_wp2_with fail
      go_ret
      exact ⟨_, rfl, (by rw [any_end h0.out (by omega)]; rfl), hbw⟩

set_option maxHeartbeats 400000 in
theorem containsIdle_any (A : Option Addr) (c : Nat) (cs : List Ck) (w : World) (hl : LiesC (fun b => b < w.heap.size) w A (cellsC cs)) (hn : cs.length ≤ maxLen) (ht : ∀ k ∈ cs, InC w k) :
    Calls Try.prog 67 #[.slice A cs.length c, .func (.func 68) #[] #[]] w (RetV w (.bool (cs.any idleC))) := by
  have HA := Lib.hid (indexIdle_any A c cs w hl hn ht)
  clear hl hn ht
  go_enter Try.func67, Try.ntmps67
  go_wp2_with fail
  refine HA.out.mono ?_
  rintro e w' ⟨i, rfl, hi, hb⟩
  have HI := Lib.hid hi
  clear hi
  go_wp2_with fail
  go_ret
  exact ⟨ret_bool HI.out, hb⟩

end Go.Proofs.Ytcpfjjimbnmaoaa.V4

namespace Go.Proofs.Ytcpfjjimbnmaoaa.V4
open Go.RowKit
open C3 (Tk In cmpI cmpI_lt cmpI_gt cmpI_eq compare_any belAl allocB)

set_option maxHeartbeats 400000 in
theorem isNaNU_any (x : Int) (w : World) : Calls Try.prog 103 #[.int .u64 x] w fun e w' => e = .returned (.bool false) ∧ w = w' := by
  go_enter Try.func103, Try.ntmps103
  go_wp2
  go_ret
  exact ⟨rfl, rfl⟩

set_option maxHeartbeats 400000 in
theorem compareU_any (x y : Int) (w : World) : Calls Try.prog 98 #[.int .u64 x, .int .u64 y] w fun e w' => e = .returned (.int .i64 (cmpI x y)) ∧ w = w' := by
  rcases Int.lt_trichotomy x y with h | h | h
  · rw [cmpI_lt h]
    go_enter Try.func98, Try.ntmps98
    go_wp2_with (go_at_call 103; refine (isNaNU_any _ _).mono ?_; rintro e w' ⟨rfl, rfl⟩)
    go_ret
    exact ⟨rfl, rfl⟩
  · subst h
    rw [cmpI_eq]
    go_enter Try.func98, Try.ntmps98
    go_wp2_with (go_at_call 103; refine (isNaNU_any _ _).mono ?_; rintro e w' ⟨rfl, rfl⟩)
    go_ret
    exact ⟨rfl, rfl⟩
  · rw [cmpI_gt h]
    have h1 : ¬ x < y := by omega
    go_enter Try.func98, Try.ntmps98
    go_wp2_with (go_at_call 103; refine (isNaNU_any _ _).mono ?_; rintro e w' ⟨rfl, rfl⟩)
    go_ret
    exact ⟨rfl, rfl⟩

/-- The first of two that is not 0. -/
def orI (x y : Int) : Int := if x = 0 then y else x

set_option maxHeartbeats 400000 in
theorem or_any (b : Nat) (x y : Int) (w : World) (h0 : w.cell? ⟨b, 0, none⟩ = some (.int .i64 x)) (h1 : w.cell? ⟨b, 1, none⟩ = some (.int .i64 y)) :
    Calls Try.prog 96 #[.slice (some ⟨b, 0, none⟩) 2 2] w fun e w' => e = .returned (.int .i64 (orI x y)) ∧ w = w' := by
  go_enter Try.func96, Try.ntmps96
  go_wp2_with fail
  go_loopw [8] (fun iv wr => ∃ k : Nat, k ≤ 2 ∧ iv = .int .i64 k ∧ wr = w ∧ Hid (1 ≤ k → x = 0) ∧ Hid (2 ≤ k → y = 0)) (fun iv _ => 2 - (intOf iv).toNat)
  case atStart => exact ⟨0, Nat.zero_le _, rfl, rfl, fun h => by omega, fun h => by omega⟩
  case round =>
    obtain ⟨k, hk, rfl, rfl, g0, g1⟩ := hrel
    rcases (by omega : k = 0 ∨ k = 1 ∨ k = 2) with rfl | rfl | rfl
    · by_cases hx : x = 0
      · have k1 : (x != 0) = false := by simp [hx]
        go_wp2_with fail
        go_roundw
        case rel => exact ⟨1, by omega, by go_num, trivial, fun _ => hx, fun h => by omega⟩
        case measure => simp [intOf]
      · have k1 : (x != 0) = true := by simp [hx]
        go_wp2_with fail
        go_ret
        exact ⟨by rw [orI, if_neg hx]; rfl, rfl⟩
    · have hx : x = 0 := g0.out (by omega)
      by_cases hy : y = 0
      · have k1 : (y != 0) = false := by simp [hy]
        have HX := Lib.hid hx
        clear hx
        go_wp2_with fail
        go_roundw
        case rel => exact ⟨2, by omega, by go_num, trivial, fun _ => HX.out, fun _ => hy⟩
        case measure => simp [intOf]
      · have k1 : (y != 0) = true := by simp [hy]
        have HX := Lib.hid hx
        clear hx
        go_wp2_with fail
        go_ret
        exact ⟨by rw [orI, if_pos HX.out]; rfl, rfl⟩
    · have HX := Lib.hid (g0.out (by omega))
      have HY := Lib.hid (g1.out (by omega))
      go_wp2_with fail
      go_ret
      exact ⟨by rw [orI, if_pos HX.out, HY.out]; rfl, rfl⟩

/-- By Who, then by N. -/
def tickI (x y : Tk) : Int := orI (cmpI x.k y.k) (cmpI x.n y.n)

set_option maxHeartbeats 1000000 in
theorem byTick_any (xk xn yk yn : Int) (w : World) : Calls Try.prog 85 #[.agg #[.int .i64 xk, .int .u64 xn], .agg #[.int .i64 yk, .int .u64 yn]] w (RetV w (.int .i64 (tickI ⟨xk, xn⟩ ⟨yk, yn⟩))) := by
  obtain ⟨p, hp⟩ : ∃ p, cmpI xk yk = p := ⟨_, rfl⟩
  obtain ⟨q, hq⟩ : ∃ q, cmpI xn yn = q := ⟨_, rfl⟩
  have HP := Lib.hid hp
  have HQ := Lib.hid hq
  have HR : Hid (tickI ⟨xk, xn⟩ ⟨yk, yn⟩ = orI p q) := by show tickI _ _ = _; unfold tickI; rw [← hp, ← hq]
  clear hp hq
  go_enter Try.func85, Try.ntmps85
  go_wp2_with fail
  have e0 : ((w.alloc (.cells #[.int .i64 xk, .int .u64 xn] 39)).alloc (.cells #[.int .i64 yk, .int .u64 yn] 39)).cell? ⟨w.heap.size, 0, none⟩ = some (.int .i64 xk) := by simp [World.cell?_alloc_past]
  have e1 : ((w.alloc (.cells #[.int .i64 xk, .int .u64 xn] 39)).alloc (.cells #[.int .i64 yk, .int .u64 yn] 39)).cell? ⟨w.heap.size, 1, none⟩ = some (.int .u64 xn) := by simp [World.cell?_alloc_past]
  have e2 : ((w.alloc (.cells #[.int .i64 xk, .int .u64 xn] 39)).alloc (.cells #[.int .i64 yk, .int .u64 yn] 39)).cell? ⟨w.heap.size + 1, 0, none⟩ = some (.int .i64 yk) := by simp
  have e3 : ((w.alloc (.cells #[.int .i64 xk, .int .u64 xn] 39)).alloc (.cells #[.int .i64 yk, .int .u64 yn] 39)).cell? ⟨w.heap.size + 1, 1, none⟩ = some (.int .u64 yn) := by simp
  have hB0 : Below w.heap.size w ((w.alloc (.cells #[.int .i64 xk, .int .u64 xn] 39)).alloc (.cells #[.int .i64 yk, .int .u64 yn] 39)) := belAl (belAl (Below.refl _ _))
  have hsz : w.heap.size + 2 ≤ ((w.alloc (.cells #[.int .i64 xk, .int .u64 xn] 39)).alloc (.cells #[.int .i64 yk, .int .u64 yn] 39)).heap.size := by simp
  have hs0 : w.heap.size < ((w.alloc (.cells #[.int .i64 xk, .int .u64 xn] 39)).alloc (.cells #[.int .i64 yk, .int .u64 yn] 39)).heap.size := by omega
  have hs1 : w.heap.size + 1 < ((w.alloc (.cells #[.int .i64 xk, .int .u64 xn] 39)).alloc (.cells #[.int .i64 yk, .int .u64 yn] 39)).heap.size := by omega
  generalize ((w.alloc (.cells #[.int .i64 xk, .int .u64 xn] 39)).alloc (.cells #[.int .i64 yk, .int .u64 yn] 39)) = W0 at *
  go_region_held3 (fun w' => w'.cell? ⟨w.heap.size, 0, none⟩ = some (.int .i64 xk) ∧ w'.cell? ⟨w.heap.size, 1, none⟩ = some (.int .u64 xn) ∧ w'.cell? ⟨w.heap.size + 1, 0, none⟩ = some (.int .i64 yk) ∧ w'.cell? ⟨w.heap.size + 1, 1, none⟩ = some (.int .u64 yn))
    (first
      | with_reducible exact ⟨e0, e1, e2, e3⟩
      | (refine ⟨?_, ?_, ?_, ?_⟩ <;> go_simp))
    (first
      | (go_at_call 97; refine (compare_any xk yk _).mono ?_; rintro e w4 ⟨rfl, rfl⟩; rw [HP.out])
      | (go_at_call 98; refine (compareU_any xn yn _).mono ?_; rintro e w4 ⟨rfl, rfl⟩; rw [HQ.out])
      | (go_at_call 96; refine (or_any _ p q _ (by simp) (by simp)).mono ?_; rintro e w4 ⟨rfl, rfl⟩))
  all_goals (
    go_wp2_with fail
    go_ret
    exact ⟨by rw [HR.out]; rfl, (belAl hB0).drew⟩)

theorem tickI_lt {x y : Tk} (h : x.k < y.k) : tickI x y = -1 := by unfold tickI; rw [cmpI_lt h]; rfl
theorem tickI_gt {x y : Tk} (h : y.k < x.k) : tickI x y = 1 := by unfold tickI; rw [cmpI_gt h]; rfl
theorem tickI_k {x y : Tk} (h : x.k = y.k) : tickI x y = cmpI x.n y.n := by unfold tickI; rw [h, cmpI_eq]; rfl
theorem tickI_ne {x y : Tk} {a b : List Tk} {i : Nat} (hx : a[i]? = some x) (hy : b[i]? = some y) (h : tickI x y ≠ 0) : decide (0 ≤ tickI x y) = !aheadC (a.drop i) (b.drop i) := by
  rw [aheadC_drop hx hy]
  rcases Int.lt_trichotomy x.k y.k with hk | hk | hk
  · have h1 : ¬ x.k = y.k := by omega
    rw [tickI_lt hk, if_neg h1, decide_eq_true hk]; rfl
  · rw [tickI_k hk] at h ⊢
    rw [if_pos hk]
    rcases Int.lt_trichotomy x.n y.n with hn | hn | hn
    · have h1 : ¬ x.n = y.n := by omega
      rw [cmpI_lt hn, if_neg h1, decide_eq_true hn]; rfl
    · exact absurd (by rw [hn, cmpI_eq]) h
    · have h1 : ¬ x.n = y.n := by omega
      have h2 : ¬ x.n < y.n := by omega
      rw [cmpI_gt hn, if_neg h1, decide_eq_false h2]; rfl
  · have h1 : ¬ x.k = y.k := by omega
    have h2 : ¬ x.k < y.k := by omega
    rw [tickI_gt hk, if_neg h1, decide_eq_false h2]; rfl
theorem tickI_eq {x y : Tk} {a b : List Tk} {i : Nat} (hx : a[i]? = some x) (hy : b[i]? = some y) (h : tickI x y = 0) : aheadC (a.drop i) (b.drop i) = aheadC (a.drop (i + 1)) (b.drop (i + 1)) := by
  rw [aheadC_drop hx hy]
  rcases Int.lt_trichotomy x.k y.k with hk | hk | hk
  · rw [tickI_lt hk] at h; omega
  · rw [tickI_k hk] at h
    rw [if_pos hk]
    rcases Int.lt_trichotomy x.n y.n with hn | hn | hn
    · rw [cmpI_lt hn] at h; omega
    · rw [if_pos hn]
    · rw [cmpI_gt hn] at h; omega
  · rw [tickI_gt hk] at h; omega

set_option maxHeartbeats 1000000 in
theorem compareFunc_any (A A' : Option Addr) (c c' : Nat) (l l' : List Tk) (w : World) (h : In w A c l) (h' : In w A' c' l') :
    Calls Try.prog 84 #[.slice A l.length c, .slice A' l'.length c', .func (.func 85) #[] #[]] w (C3.RetIx w (!aheadC l l')) := by
  obtain ⟨hl, hcap, htop, -⟩ := h
  obtain ⟨hl', hcap', htop', -⟩ := h'
  have hlm : l.length ≤ 9223372036854775807 := by unfold maxLen at htop; omega
  have hlm' : l'.length ≤ 9223372036854775807 := by unfold maxLen at htop'; omega
  clear hcap htop hcap' htop'
  go_enter Try.func84, Try.ntmps84
  go_wp2_with fail
  go_loopw [13] (fun iv wr => ∃ k : Nat, k ≤ l.length ∧ k ≤ l'.length ∧ iv = .int .i64 k ∧ Hid (aheadC l l' = aheadC (l.drop k) (l'.drop k)) ∧ Below w.heap.size w wr) (fun iv _ => l.length - (intOf iv).toNat)
  case atStart => exact ⟨0, Nat.zero_le _, Nat.zero_le _, rfl, rfl, Below.refl _ _⟩
  case round =>
    obtain ⟨k, hk, hk', rfl, h0, hbw⟩ := hrel
    by_cases hlt : k < l.length
    · obtain ⟨b, off, rfl, hb, hc⟩ := (hl.below hbw).get hlt
      obtain ⟨x, hx⟩ : ∃ x, l[k]? = some x := ⟨_, List.getElem?_eq_getElem hlt⟩
      obtain ⟨hc0, hc1⟩ := hc k x hx
      have HX := Lib.hid hx
      clear hx hc hl
      obtain ⟨xk, xn⟩ := x
      dsimp only at hc0 hc1
      by_cases hlt' : k < l'.length
      · obtain ⟨b', off', rfl, hb', hc'⟩ := (hl'.below hbw).get hlt'
        obtain ⟨y, hy⟩ : ∃ y, l'[k]? = some y := ⟨_, List.getElem?_eq_getElem hlt'⟩
        obtain ⟨hd0, hd1⟩ := hc' k y hy
        have HY := Lib.hid hy
        clear hy hc' hl'
        obtain ⟨yk, yn⟩ := y
        dsimp only at hd0 hd1
        have hbb : b < wr.heap.size := World.block_lt_of_cell? wr _ hc0
        have hbb' : b' < wr.heap.size := World.block_lt_of_cell? wr _ hd0
        have d1 : ¬ (l'.length ≤ k) := by omega
        obtain ⟨q, hq⟩ : ∃ q, tickI ⟨xk, xn⟩ ⟨yk, yn⟩ = q := ⟨_, rfl⟩
        have HQ := Lib.hid hq
        clear hq
        have f0 : (wr.alloc (.cells #[.int .i64 xk, .int .u64 xn] 39)).cell? ⟨b', off' + k * 2, none⟩ = some (.int .i64 yk) := (World.cell?_alloc_past _ _ _ hbb').trans hd0
        have f1 : (wr.alloc (.cells #[.int .i64 xk, .int .u64 xn] 39)).cell? ⟨b', off' + k * 2 + 1, none⟩ = some (.int .u64 yn) := (World.cell?_alloc_past _ _ _ hbb').trans hd1
        go_wp2_with fail
        refine (byTick_any xk xn yk yn _).mono ?_
        rintro e w' ⟨rfl, hb2⟩
        rw [HQ.out]
        have hb3 : Below w.heap.size w w' := hbw.trans (((belAl (belAl (Below.refl _ _))).trans (hb2.mono (by simp; omega))).mono hbw.size)
        by_cases hq0 : q = 0
        · have k0 : (q != 0) = false := by simp [hq0]
          clear hb2
          go_wp2_with fail
          go_roundw
          case rel => exact ⟨k + 1, by omega, by omega, by go_num, by show _ = _; rw [h0.out]; exact tickI_eq HX.out HY.out (HQ.out.trans hq0), hb3⟩
          case measure => simp [intOf]; omega
        · have k0 : (q != 0) = true := by simp [hq0]
          clear hb2
          go_wp2_with fail
          go_ret
          refine ⟨_, rfl, ?_, hb3⟩
          rw [h0.out, ← tickI_ne HX.out HY.out (by rw [HQ.out]; exact hq0), HQ.out]
      · have d1 : l'.length ≤ k := by omega
        have HNL : Hid (¬ l.length < l'.length) := by show ¬ _; omega
        go_wp2_with fail
        go_ret
        refine ⟨_, rfl, ?_, belAl hbw⟩
        rw [h0.out, aheadC_end (.inr d1) hk hk', decide_eq_false HNL.out]
        rfl
    · by_cases hll : l.length < l'.length
      · go_wp2_with fail
        go_ret
        refine ⟨_, rfl, ?_, hbw⟩
        rw [h0.out, aheadC_end (.inl (by omega)) hk hk', decide_eq_true hll]
        rfl
      · go_wp2_with fail
        go_ret
        refine ⟨_, rfl, ?_, hbw⟩
        rw [h0.out, aheadC_end (.inl (by omega)) hk hk', decide_eq_false hll]
        rfl
end Go.Proofs.Ytcpfjjimbnmaoaa.V4

namespace Go.Proofs.Ytcpfjjimbnmaoaa.V4
open Go.RowKit Go.Shelf
open C3 (Tk In belAl)

attribute [local go_sem] Oper.semAt_some

/-- The twos whose second one stands at place i. -/
def twosAt (l : List Ck) (i : Nat) : List (Ck × Ck) := match l[i]? with
  | some b => (l.take i).map fun a => (a, b)
  | none => []
/-- .. ahead of place i. -/
def twosTo (l : List Ck) (i : Nat) : List (Ck × Ck) := (List.range i).flatMap (twosAt l)

theorem twosTo_succ (l : List Ck) (i : Nat) : twosTo l (i + 1) = twosTo l i ++ twosAt l i := by unfold twosTo; rw [List.range_succ, List.flatMap_append]; simp
theorem twosTo_pre (l : List Ck) {i m : Nat} (h : i ≤ m) : twosTo l i <+: twosTo l m := by
  induction m with
  | zero => rw [show i = 0 by omega]; exact List.prefix_rfl
  | succ m ih =>
    by_cases h1 : i ≤ m
    · rw [twosTo_succ]; exact (ih h1).trans (List.prefix_append _ _)
    · rw [show i = m + 1 by omega]; exact List.prefix_rfl
theorem twosAt_len {l : List Ck} {i : Nat} (h : i < l.length) : (twosAt l i).length = i := by
  unfold twosAt
  rw [List.getElem?_eq_getElem h]
  simp; omega
theorem twos_at {l : List Ck} {i j : Nat} {a b : Ck} (hb : l[i]? = some b) (ha : l[j]? = some a) (hj : j < i) : (twosTo l l.length)[(twosTo l i).length + j]? = some (a, b) := by
  have hi := (List.getElem?_eq_some_iff.1 hb).1
  obtain ⟨r, hr⟩ := twosTo_pre l (show i + 1 ≤ l.length by omega)
  rw [← hr, twosTo_succ, List.append_assoc, List.getElem?_append_right (by omega), Nat.add_sub_cancel_left, List.getElem?_append_left (by rw [twosAt_len hi]; exact hj)]
  unfold twosAt
  rw [hb]
  simp only [List.getElem?_map]
  rw [List.getElem?_take_of_lt hj, ha]
  rfl
theorem twosTo_lt {l : List Ck} {i j : Nat} (hi : i < l.length) (hj : j < i) : (twosTo l i).length + j < (twosTo l l.length).length := by
  obtain ⟨r, hr⟩ := twosTo_pre l (show i + 1 ≤ l.length by omega)
  rw [← hr, twosTo_succ, List.length_append, List.length_append, twosAt_len hi]
  omega

def encTw (x : Ck × Ck) : Array Value := #[x.1.v, x.2.v]

set_option maxHeartbeats 400000 in
theorem twos_any (A : Option Addr) (c : Nat) (l : List Ck) (w : World) : Calls Try.prog 83 #[.slice A l.length c] w fun e w' =>
    e = .returned (.func (.func 95) #[] #[.pointer (some ⟨w.heap.size, 0, none⟩)]) ∧ w.alloc (.cells #[.slice A l.length c] 27) = w' := by
  go_enter Try.func83, Try.ntmps83
  go_wp2_with fail
  go_ret
  exact ⟨rfl, rfl⟩

set_option maxRecDepth 100000 in
set_option maxHeartbeats 1000000 in
theorem twos_seq (Bt D : Nat) (A : Option Addr) (c : Nat) (vs : List Ck) (w : World) (hl : LiesC (Bar D) w A (cellsC vs)) (hcap : vs.length ≤ c) (hctop : c ≤ 9223372036854775807) (hBD : Bt ≠ D) (hBt : w.cell? ⟨Bt, 0, none⟩ = some (.slice A vs.length c)) :
    SeqO Try.prog 95 #[.pointer (some ⟨Bt, 0, none⟩)] encTw D (fun _ => True) (twosTo vs vs.length) w := by
  intro l J Jx W hW hJ hJx hY h0
  have hB : W.cell? ⟨Bt, 0, none⟩ = some (.slice A vs.length c) := (hW.cell (p := ⟨Bt, 0, none⟩) (World.block_lt_of_cell? w _ hBt)).trans hBt
  have hlW : LiesC (Bar D) W A (cellsC vs) := hl.kn (B := 0) (KN.of_below hW)
  have HY := Lib.hid hY
  have HL := Lib.hid hlW
  clear hY hJ hJx hBt hl hlW hW
  refine (callsIn_wide (n := 6)).1 (callsIn_of_wp Try.func95 rfl trivial ?_ rfl)
  simp only [Try.ntmps95, List.size_toArray, List.length_cons, List.length_nil, Nat.reduceAdd, Nat.reduceSub, Array.replicate_succ, Array.replicate_zero, List.push_toArray, List.append_toArray, List.nil_append, List.cons_append]
  gi_wp2_with fail
  gi_loopw [9] (fun iv wr => ∃ (i : Nat), i ≤ vs.length ∧ iv = .int .i64 i ∧ J (twosTo vs i).length wr ∧ KN D W.heap.size W wr) (fun iv _ => vs.length - (intOf iv).toNat)
  case atStart => exact ⟨0, Nat.zero_le _, rfl, h0, KN.refl _ _ _⟩
  case round =>
    obtain ⟨i, hi, rfl, hJr, hkr⟩ := hrel
    clear h0
    by_cases hlt : i < vs.length
    · obtain ⟨x, hx⟩ : ∃ x, vs[i]? = some x := ⟨_, List.getElem?_eq_getElem hlt⟩
      obtain ⟨b, off, rfl, hb, c0⟩ := clock_at HL.out hx
      replace c0 := hkr.cell hb c0
      have hbb := World.block_lt_of_cell? wr _ c0
      simp only at hbb
      have HX := Lib.hid hx
      have hB2 := hkr.cell hBD hB
      clear hx
      obtain ⟨xA, xc, xl⟩ := x
      simp only [Ck.v] at c0
      gi_wp2_with fail
      clear c0 hB2
      gi_loopw [18] (fun jv wj => ∃ (j : Nat), j ≤ i ∧ jv = .int .i64 j ∧ J ((twosTo vs i).length + j) wj ∧ KN D W.heap.size W wj) (fun jv _ => i - (intOf jv).toNat)
      case atStart => exact ⟨0, Nat.zero_le _, rfl, hJr, hkr⟩
      case round =>
        obtain ⟨j, hj, rfl, hJj, hkj⟩ := hrel
        clear hJr hkr
        by_cases hjl : j < i
        · obtain ⟨y, hy0⟩ : ∃ y, vs[j]? = some y := ⟨_, List.getElem?_eq_getElem (by omega)⟩
          obtain ⟨b2, off2, hA2, -, d0⟩ := clock_at HL.out hy0
          cases hA2
          replace d0 := hkj.cell hb d0
          have hbj := World.block_lt_of_cell? _ _ d0
          simp only at hbj
          obtain ⟨fn, tmps, assign, body, hy, hR⟩ := yield_any (m' := 5) (HY.out _ _ _ (twos_at HX.out hy0 hjl) hJj hkj.size)
          unfold encTw at hy
          clear hy0
          obtain ⟨yA, yc, yl⟩ := y
          simp only [Ck.v] at hy d0
          gi_wp2_with fail
          refine hR.mono ?_
          clear hR hy d0
          rintro e W5 (⟨rfl, hJ5, hk5, -⟩ | ⟨rfl, hJx5, -⟩)
          · have hk6 : KN D W.heap.size W W5 := hkj.trans hk5
            clear hk5 hkj hJj
            gi_wp2_with fail
            go_roundw
            case rel => exact ⟨j + 1, by omega, by go_num, hJ5, hk6⟩
            case measure => simp [intOf]; omega
          · gi_wp2_with fail
            refine bodyPost_ret (results_none rfl _ _ _) rfl ?_
            exact ⟨⟨_, rfl⟩, .inr ⟨_, twosTo_lt hlt hjl, hJx5⟩⟩
        · have hje : j = i := by omega
          have hJ6 := hJj
          rw [hje, show (twosTo vs i).length + i = (twosTo vs (i + 1)).length by rw [twosTo_succ, List.length_append, twosAt_len hlt]] at hJ6
          clear hje hJj
          gi_wp2_with fail
          go_roundw
          case rel => exact ⟨i + 1, by omega, by go_num, hJ6, hkj⟩
          case measure => simp [intOf]; omega
    · gi_wp2_with fail
      go_end0
      have hke : i = vs.length := by omega
      exact ⟨⟨_, rfl⟩, .inl (hke ▸ hJr)⟩
end Go.Proofs.Ytcpfjjimbnmaoaa.V4
