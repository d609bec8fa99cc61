/- What the reference's under and CmpClocks do. No condition but that the ticks lie in memory. -/
import Derived.Test.YtahjlckdjlafpaaRefCb
namespace Go.Proofs.Ytahjlckdjlafpaa
open Go.RowKit

theorem In.drewN {w : World} {A : Option Addr} {c : Nat} {xs : List Tk} (h : In w A c xs) (n : Nat) : In (w.drewN n) A c xs := h.later (below_drewN (Below.refl _ _) n)

theorem refOf_quiet (A : Option Addr) (c : Nat) (l : List Tk) (q v : Int) (w : World) (n : Nat) (h : In w A c l) (hv : ofC l q = v) : Calls Try.prog 11 #[.slice A l.length c, .int .i64 q] (w.drewN n) fun e w' => e = .returned (.int .u64 v) ∧ ∃ m, w' = w.drewN m :=
  hv ▸ (refOf_any A c l q _ (h.drewN n)).mono fun _ _ ⟨h1, h2⟩ => ⟨h1, n, h2.symm⟩

theorem all_succ {p : Tk → Bool} {l : List Tk} {k : Nat} {x : Tk} (h0 : (l.take k).all p = true) (hx : l[k]? = some x) (h : p x = true) : (l.take (k + 1)).all p = true := by
  obtain ⟨hi, he⟩ := List.getElem?_eq_some_iff.1 hx
  rw [List.take_succ_eq_append_getElem hi, List.all_append, h0, he]
  simp [h]
theorem all_end {p : Tk → Bool} {l : List Tk} {k : Nat} (h0 : (l.take k).all p = true) (h : l.length ≤ k) : l.all p = true := by rwa [List.take_of_length_le h] at h0
theorem all_fail {p : Tk → Bool} {l : List Tk} {k : Nat} {x : Tk} (hx : l[k]? = some x) (h : p x = false) : l.all p = false := by
  rw [List.all_eq_false]
  exact ⟨x, List.mem_of_getElem? hx, by simp [h]⟩

set_option maxHeartbeats 400000 in
theorem refUnder_any (A A' : Option Addr) (c c' : Nat) (l l' : List Tk) (w : World) (h : In w A c l) (h' : In w A' c' l') :
    Calls Try.prog 28 #[.slice A l.length c, .slice A' l'.length c'] w (RetV w (.bool (underC l l'))) := by
  obtain ⟨hl, hcap, htop, -⟩ := h
  have HB := Lib.hid h'
  have hlm : l.length ≤ 9223372036854775807 := by unfold maxLen at htop; omega
  clear hcap htop h'
  go_enter Try.func28, Try.ntmps28
  go_wp2_with fail
  go_loopw [5] (fun iv wr => ∃ k : Nat, k ≤ l.length ∧ iv = .int .i64 k ∧ Hid ((l.take k).all (fun t => decide (t.n ≤ ofC l' t.k)) = true) ∧ Below w.heap.size w wr) (fun iv _ => l.length - (intOf iv).toNat)
  case atStart => exact ⟨0, Nat.zero_le _, rfl, by simp [Hid], Below.refl _ _⟩
  case round =>
    obtain ⟨k, hk, rfl, h0, hbw⟩ := hrel
    by_cases hlt : k < l.length
    · obtain ⟨b, off, rfl, hb, hc⟩ := (hl.below hbw).get hlt
      obtain ⟨x, hx⟩ : ∃ x, l[k]? = some x := ⟨_, List.getElem?_eq_getElem hlt⟩
      obtain ⟨hc0, hc1⟩ := hc k x hx
      have HX := Lib.hid hx
      clear hx hc hl
      obtain ⟨xk, xn⟩ := x
      dsimp only at hc0 hc1
      have hki : (k : Int) < (l.length : Int) := by omega
      replace HB := Lib.hid (HB.out.later hbw)
      obtain ⟨q, hq⟩ : ∃ q, ofC l' xk = q := ⟨_, rfl⟩
      have HQ := Lib.hid hq
      clear hq
      by_cases hle : xn ≤ q
      · have HP : Hid ((fun t : Tk => decide (t.n ≤ ofC l' t.k)) ⟨xk, xn⟩ = true) := by show decide (xn ≤ ofC l' xk) = true; rw [HQ.out]; exact decide_eq_true hle
        have d1 : decide (q < xn) = false := decide_eq_false (by omega)
        clear hle
        go_wp2_with fail
        go_quiet ((go_at_call 11; exact refOf_quiet _ _ _ _ _ _ _ HB.out HQ.out))
        go_wp2_with fail
        go_roundw
        case rel => exact ⟨k + 1, by omega, by go_num, all_succ h0.out HX.out HP.out, below_drewN hbw _⟩
        case measure => simp [intOf]; omega
      · have HP : Hid ((fun t : Tk => decide (t.n ≤ ofC l' t.k)) ⟨xk, xn⟩ = false) := by show decide (xn ≤ ofC l' xk) = false; rw [HQ.out]; exact decide_eq_false hle
        have d1 : q < xn := by omega
        clear hle
        go_wp2_with fail
        go_quiet ((go_at_call 11; exact refOf_quiet _ _ _ _ _ _ _ HB.out HQ.out))
        go_wp2_with fail
        go_ret
        exact ⟨ret_bool (all_fail HX.out HP.out).symm, below_drewN hbw _⟩
    · go_wp2_with fail
      go_ret
      exact ⟨ret_bool (all_end h0.out (by omega)).symm, hbw⟩

set_option maxHeartbeats 400000 in
theorem refCmp_any (A A' : Option Addr) (c c' : Nat) (l l' : List Tk) (w : World) (h : In w A c l) (h' : In w A' c' l') :
    Calls Try.prog 17 #[.slice A l.length c, .slice A' l'.length c'] w (RetV w (.int .i64 (cmpC l l'))) := by
  have HA := Lib.hid h
  have HB := Lib.hid h'
  clear h h'
  obtain ⟨p, hp⟩ : ∃ p, underC l l' = p := ⟨_, rfl⟩
  obtain ⟨q, hq⟩ : ∃ q, underC l' l = q := ⟨_, rfl⟩
  have HC : Hid (cmpC l l' = cmpB p q) := by show cmpC l l' = _; unfold cmpC; rw [hp, hq]
  have HP := Lib.hid hp
  have HQ := Lib.hid hq
  clear hp hq
  rw [HC.out]
  go_enter Try.func17, Try.ntmps17
  go_wp2_with fail
  refine (refUnder_any A A' c c' l l' w HA.out HB.out).mono ?_
  rintro e w1 ⟨rfl, hb1⟩
  rw [HP.out]
  go_wp2_with fail
  refine (refUnder_any A' A c' c l' l w1 (HB.out.later hb1) (HA.out.later hb1)).mono ?_
  rintro e w2 ⟨rfl, hb2⟩
  rw [HQ.out]
  have hb3 : Below w.heap.size w w2 := hb1.trans (hb2.mono hb1.size)
  cases p <;> cases q
  all_goals
    go_wp2_with fail
    go_ret
    exact ⟨rfl, hb3⟩
end Go.Proofs.Ytahjlckdjlafpaa
