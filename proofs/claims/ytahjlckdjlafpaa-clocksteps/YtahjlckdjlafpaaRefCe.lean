/- What the reference's Up and JoinClocks do. No condition but that the ticks lie in memory, at most 100, and that no number is 0. -/
import Derived.Test.YtahjlckdjlafpaaRefCd
import Derived.StillTailTactics
namespace Go.Proofs.Ytahjlckdjlafpaa
open Go.RowKit

set_option maxHeartbeats 400000 in
theorem refUp_any (A : Option Addr) (c : Nat) (l : List Tk) (q : Int) (w : World) (h : In w A c l) (hlen : l.length ≤ 1000) :
    Calls Try.prog 13 #[.slice A l.length c, .int .i64 q] w (RetT w (upC l q)) := by
  obtain ⟨n, hn⟩ : ∃ n, ofC l q = n := ⟨_, rfl⟩
  have hb := ofC_nok h.nok q
  rw [hn] at hb
  obtain ⟨hb0, hb1⟩ := hb
  have HA := Lib.hid h
  have HN := Lib.hid hn
  have HU : Hid (upC l q = withC l q (upN n)) := by show upC l q = _; unfold upC; rw [hn]
  clear h hn
  rw [HU.out]
  by_cases hm : n = 18446744073709551615
  · subst hm
    go_enter Try.func13, Try.ntmps13
    go_wp2_with fail
    refine (refOf_any A c l q w HA.out).mono ?_
    rintro e w' ⟨rfl, rfl⟩
    rw [HN.out]
    go_wp2_with fail
    refine (refWith_any A c l q 18446744073709551615 w HA.out (by decide) (by decide) (by decide) hlen).mono ?_
    rintro e w' ⟨A2, c2, rfl, hin, hbl⟩
    go_wp2_with fail
    go_ret
    exact ⟨A2, c2, rfl, hin, hbl⟩
  · have hlt : n < 18446744073709551615 := by omega
    have hu : upN n = n + 1 := by unfold upN; rw [if_pos hlt]
    rw [hu]
    have hz : ((n + 1) == 0) = false := by
      have : n + 1 ≠ 0 := by omega
      simp [this]
    clear hu hm
    go_enter Try.func13, Try.ntmps13
    go_wp2_with fail
    refine (refOf_any A c l q w HA.out).mono ?_
    rintro e w' ⟨rfl, rfl⟩
    rw [HN.out]
    go_wp2_with fail
    refine (refWith_any A c l q (n + 1) w HA.out (by omega) (by omega) (by omega) hlen).mono ?_
    rintro e w' ⟨A2, c2, rfl, hin, hbl⟩
    go_wp2_with fail
    go_ret
    exact ⟨A2, c2, rfl, hin, hbl⟩

theorem joinC_succ {a b ys : List Tk} {k : Nat} {y : Tk} (h : ys = joinC a (b.take k)) (hy : b[k]? = some y) : withC ys y.k y.n = joinC a (b.take (k + 1)) := by
  obtain ⟨hi, he⟩ := List.getElem?_eq_some_iff.1 hy
  rw [List.take_succ_eq_append_getElem hi, he, h]
  unfold joinC
  rw [List.foldl_append]
  rfl
theorem joinC_end {a b ys : List Tk} {k : Nat} (h : ys = joinC a (b.take k)) (hk : b.length ≤ k) : ys = joinC a b := by rwa [List.take_of_length_le hk] at h

set_option maxRecDepth 100000 in
set_option maxHeartbeats 400000 in
theorem refJoin_any (A A' : Option Addr) (c c' : Nat) (l l' : List Tk) (w : World) (h : In w A c l) (h' : In w A' c' l') (hn : ∀ y ∈ l', y.n ≠ 0) (hlen : l.length ≤ 100) (hlen' : l'.length ≤ 100) :
    Calls Try.prog 15 #[.slice A l.length c, .slice A' l'.length c'] w (RetT w (joinC l l')) := by
  obtain ⟨hl, -, -, hnok⟩ := h
  obtain ⟨hl', -, -, hnok'⟩ := h'
  have HNZ : Hid (∀ y ∈ l', y.n ≠ 0 ∧ 0 ≤ y.n ∧ y.n ≤ 18446744073709551615) := fun y hy => ⟨hn y hy, hnok' y hy⟩
  have HNK := Lib.hid hnok
  clear hn hnok hnok'
  go_enter Try.func15, Try.ntmps15
  go_wp2_with (at_builtin; refine wpList_app _ rfl (.const (.slice none 0 0)) (.tmp 7) 22 rfl w.heap.size Try.underlying22 (.slice none 0 0) [] rfl (OwnT.nil _ _) _ A l.length c l rfl rfl hl (by simp; omega) (Nat.le_refl _) ?_; intro v2 w2 hown3 hg3 _; have hbw5 : Below w.heap.size w w2 := (Below.refl _ w).grown hg3 (Nat.le_refl _) (fun k hk => by cases hk); clear hg3; obtain ⟨A2, c2, rfl, hin2⟩ := OwnT.form hown3 HNK.out; clear hown3)
  simp only [List.nil_append] at hin2 ⊢
  go_loopw [5, 6] (fun ov iv wr => ∃ (k : Nat) (A2 : Option Addr) (c2 : Nat) (ys : List Tk), k ≤ l'.length ∧ iv = .int .i64 k ∧ ov = .slice A2 ys.length c2 ∧ In wr A2 c2 ys ∧ ys.length ≤ l.length + k ∧ Hid (ys = joinC l (l'.take k)) ∧ Below w.heap.size w wr) (fun _ iv _ => l'.length - (intOf iv).toNat)
  case atStart => exact ⟨0, A2, c2, l, Nat.zero_le _, rfl, rfl, hin2, by omega, by simp [Hid, joinC], hbw5⟩
  case round =>
    obtain ⟨k, A3, c3, ys, hk, rfl, rfl, hin3, hyk, h0, hbw⟩ := hrel
    clear hin2 hbw5
    by_cases hlt : k < l'.length
    · obtain ⟨b, off, rfl, hb, hc⟩ := (hl'.below hbw).get hlt
      obtain ⟨y, hy⟩ : ∃ y, l'[k]? = some y := ⟨_, List.getElem?_eq_getElem hlt⟩
      obtain ⟨hc0, hc1⟩ := hc k y hy
      have HY := Lib.hid hy
      have HN3 := Lib.hid (HNZ.out y (List.mem_of_getElem? hy))
      clear hy hc hl'
      obtain ⟨yk, yn⟩ := y
      dsimp only at hc0 hc1 HN3
      have hki : (k : Int) < (l'.length : Int) := by omega
      have HI3 := Lib.hid hin3
      have HBW := Lib.hid hbw
      clear hin3 hbw
      go_wp2_with fail
      go_still_tail 11, (by kernel_rfl)
      change wpList _ _ _ _ _ wr.drew
      go_wp2_with fail
      refine (refWith_any A3 c3 ys yk yn _ (HI3.out.later (drewB wr)) HN3.out.1 HN3.out.2.1 HN3.out.2.2 (by omega)).mono ?_
      rintro e w4 ⟨A4, c4, rfl, hin4, hb4⟩
      have hbw4 : Below w.heap.size w w4 := (HBW.out.drew).trans (hb4.mono HBW.out.size)
      go_wp2_with fail
      go_roundw
      case rel => exact ⟨k + 1, A4, c4, withC ys yk yn, by omega, by go_num, rfl, hin4, by have := withC_len yk yn ys; omega, joinC_succ h0.out HY.out, hbw4⟩
      case measure => simp [intOf]; omega
    · go_wp2_with fail
      go_ret
      have e := joinC_end h0.out (by omega)
      subst e
      exact ⟨A3, c3, rfl, hin3, hbw⟩
end Go.Proofs.Ytahjlckdjlafpaa
