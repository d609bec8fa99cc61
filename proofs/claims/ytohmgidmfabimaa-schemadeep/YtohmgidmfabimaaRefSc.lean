/- What the reference's isSchema does. No condition but that the schema lies in memory. -/
import Derived.Test.YtohmgidmfabimaaRefSb
namespace Go.Proofs.Ytohmgidmfabimaa
open Go.RowKit

theorem arity_quiet (k : Int) (w : World) (n : Nat) : Calls Try.prog 27 #[.int .i64 k] (w.drewN n) fun e w' => e = .returned (.int .i64 (arI k)) ∧ ∃ m, w' = w.drewN m :=
  (arity_any k _).mono fun _ _ ⟨h1, h2⟩ => ⟨h1, n, h2.symm⟩

theorem isT_succ (n : Nat) (k : Int) (A : Option Addr) (c : Nat) (l : List Sc) : isT (n + 1) (Sc.mk k A c l).er = (decide ((l.length : Int) = arI k) && l.all fun x => isT n x.er) := by
  rw [isT, er_ins, er_k]
  simp only [Sc.ins, Sc.k, List.length_map, List.all_map]
  rfl

theorem all_take_succ {p : Sc → Bool} {l : List Sc} {k : Nat} {x : Sc} (h0 : (l.take k).all p = true) (hx : l[k]? = some x) (h : p x = true) : (l.take (k + 1)).all p = true := by
  obtain ⟨hk, he⟩ := List.getElem?_eq_some_iff.1 hx
  rw [List.take_succ_eq_append_getElem hk, he, List.all_append, h0]
  simp [h]
theorem all_miss {p : Sc → Bool} {l : List Sc} {k : Nat} {x : Sc} (hx : l[k]? = some x) (h : p x = false) : l.all p = false := by
  rw [List.all_eq_false]
  exact ⟨x, List.mem_of_getElem? hx, by simp [h]⟩

set_option maxHeartbeats 400000 in
theorem refis_any (n : Nat) (hn : n ≤ 1000) : ∀ (N : Int) (s : Sc) (w : World), N = n → s.In w.heap.size w →
    Calls Try.prog 19 #[s.val, .int .i64 N] w (RetV w (.bool (isT n s.er))) := by
  induction n with
  | zero =>
    rintro N ⟨k, A, c, l⟩ w rfl -
    simp only [val_mk]
    go_enter Try.func19, Try.ntmps19
    go_wp2_with fail
    go_quiet (fail)
    go_wp2_with fail
    go_ret
    exact ⟨rfl, below_drewN (allocB _ _) _⟩
  | succ n ih =>
    rintro N ⟨k0, A, c, l⟩ w hN hin
    have hN0 : 0 < N := by omega
    have hN1 : N ≤ 1000 := by omega
    have HN : Hid (N - 1 = n) := by show N - 1 = n; omega
    clear hN
    obtain ⟨hl, hlc, hc32, hall⟩ := hin.out
    clear hin
    have IH := Lib.hid (ih (by omega))
    have HALL := Lib.hid hall
    clear ih hall
    have hdec : decide (N ≤ 0) = false := decide_eq_false (by omega)
    simp only [val_mk]
    rw [isT_succ]
    by_cases har : (l.length : Int) = arI k0
    · rw [decide_eq_true har, Bool.true_and]
      go_enter Try.func19, Try.ntmps19
      go_wp2_with fail
      go_quiet ((go_at_call 27; exact arity_quiet _ _ _))
      go_wp2_with fail
      clear har hdec
      have hbw0 : Below w.heap.size w ((w.alloc (.cells #[.int .i64 k0, .slice A l.length c] 24)).drewN nq) := below_drewN (allocB _ _) _
      go_loopw [5] (fun iv wr => ∃ (k : Nat), k ≤ l.length ∧ iv = .int .i64 k ∧ Hid ((l.take k).all (fun x => isT n x.er) = true) ∧ Below w.heap.size w wr ∧ wr.cell? ⟨w.heap.size, 1, none⟩ = some (.slice A l.length c) ∧ w.heap.size < wr.heap.size) (fun iv _ => l.length - (intOf iv).toNat)
      case atStart => exact ⟨0, Nat.zero_le _, rfl, by simp [Hid], hbw0, by simp, by simp⟩
      case round =>
        obtain ⟨k, hk, rfl, h0, hbw, hbox, hsz⟩ := hrel
        clear hbw0
        by_cases hlt : k < l.length
        · obtain ⟨b, off, rfl, hb, hc⟩ := (hl.below hbw).get hlt
          obtain ⟨x, hx⟩ : ∃ x, l[k]? = some x := ⟨_, List.getElem?_eq_getElem hlt⟩
          obtain ⟨hc0, hc1⟩ := hc k x hx
          have hxin : x.In wr.heap.size wr := ((HALL.out x (List.mem_of_getElem? hx)).later hbw)
          have HX := Lib.hid hx
          clear hx hc hl
          obtain ⟨xk, xA, xc, xl⟩ := x
          simp only [Sc.v1, Sc.k] at hc0 hc1
          obtain ⟨q, hq⟩ : ∃ q, isT n (Sc.mk xk xA xc xl).er = q := ⟨_, rfl⟩
          have HQ := Lib.hid hq
          go_wp2_with fail
          refine (IH.out _ (.mk xk xA xc xl) wr HN.out hxin).mono ?_
          rintro e w' ⟨rfl, hb2⟩
          rw [hq]
          clear hq
          have hbox2 := (hb2.cell (p := ⟨w.heap.size, 1, none⟩) hsz).trans hbox
          cases q with
          | false =>
            go_wp2_with fail
            go_ret
            exact ⟨ret_bool (all_miss HX.out HQ.out).symm, hbw.trans (hb2.mono hbw.size)⟩
          | true =>
            go_wp2_with fail
            go_roundw
            case rel => exact ⟨k + 1, by omega, by go_num, all_take_succ h0.out HX.out HQ.out, hbw.trans (hb2.mono hbw.size), hbox2, Nat.lt_of_lt_of_le hsz hb2.size⟩
            case measure => simp [intOf]; omega
        · go_wp2_with fail
          go_ret
          exact ⟨ret_bool (by have := h0.out; rw [List.take_of_length_le (by omega)] at this; exact this.symm), hbw⟩
    · rw [decide_eq_false har, Bool.false_and]
      go_enter Try.func19, Try.ntmps19
      go_wp2_with fail
      go_quiet ((go_at_call 27; exact arity_quiet _ _ _))
      go_wp2_with fail
      go_ret
      exact ⟨rfl, below_drewN (allocB _ _) _⟩
end Go.Proofs.Ytohmgidmfabimaa
