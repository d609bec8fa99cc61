/- What the reference's Level does. No condition but that the schema lies in memory. -/
import Derived.Test.YtohmgidmfabimaaRefSe
import Derived.Deep.RegionHeld3
namespace Go.Proofs.Ytohmgidmfabimaa
open Go.RowKit

/-- What a schema of kind 8 has. -/
theorem is_cause {k : Int} {A : Option Addr} {c : Nat} {l : List Sc} (h : isT 16 (Sc.mk k A c l).er = true) (hk : k = 8) : ∃ x, l = [x] ∧ isT 15 x.er = true := by
  rw [isT_succ, Bool.and_eq_true] at h
  subst hk
  have h1 : (l.length : Int) = 1 := of_decide_eq_true h.1
  match l, h1 with
  | [x], _ => exact ⟨x, rfl, by simpa using h.2⟩
theorem is_pair {n : Nat} {k : Int} {A : Option Addr} {c : Nat} {l : List Sc} (h : isT (n + 1) (Sc.mk k A c l).er = true) (hk : k = 5) : ∃ x y, l = [x, y] := by
  rw [isT_succ, Bool.and_eq_true] at h
  subst hk
  have h1 : (l.length : Int) = 2 := of_decide_eq_true h.1
  match l, h1 with
  | [x, y], _ => exact ⟨x, y, rfl⟩

theorem lies_first {n : Nat} {w : World} {A : Option Addr} {x : Sc} {l : List Sc} (h : LiesS n w A (x :: l)) : ∃ b off, A = some ⟨b, off, none⟩ ∧ b < n ∧ w.cell? ⟨b, off, none⟩ = some (.int .i64 x.k) ∧ w.cell? ⟨b, off + 1, none⟩ = some x.v1 := by
  obtain ⟨b, off, hA, hb, hc⟩ := h.get (k := 0) (by simp)
  have := hc 0 x rfl
  simp only [Nat.zero_mul, Nat.add_zero] at this
  exact ⟨b, off, hA, hb, this⟩
theorem lies_second {n : Nat} {w : World} {b off : Nat} {x y : Sc} {l : List Sc} (h : LiesS n w (some ⟨b, off, none⟩) (x :: y :: l)) : w.cell? ⟨b, off + 2, none⟩ = some (.int .i64 y.k) ∧ w.cell? ⟨b, off + 2 + 1, none⟩ = some y.v1 := by
  obtain ⟨b, off, hA, hb, hc⟩ := h.get (k := 0) (by simp)
  cases hA
  exact hc 1 y rfl

theorem level_not {t : Tr} (h : isT 16 t = false) : levelT t = 0 := by simp [levelT, h]
theorem level_last {t : Tr} (h : isT 16 t = true) (hk : t.k = 6) : levelT t = 2 := by simp [levelT, h, hk]
theorem level_plain {t : Tr} (h : isT 16 t = true) (hk : t.k ≠ 6) (hc : causalT t = false) : levelT t = 1 := by simp [levelT, h, hk, hc]
theorem level_cause {t : Tr} (h : isT 16 t = true) (hk : t.k ≠ 6) (hc : causalT t = true) : levelT t = 3 := by simp [levelT, h, hk, hc]
theorem causal_k {t : Tr} (h : t.k ≠ 8) : causalT t = false := by
  unfold causalT
  split
  · rename_i k k1 x r
    exact decide_eq_false fun e => h e.1
  · rfl
theorem causal_k1 {k : Int} {A : Option Addr} {c : Nat} {x : Sc} (h : x.k ≠ 5) : causalT (Sc.mk k A c [x]).er = false := by
  obtain ⟨k1, A1, c1, l1⟩ := x
  simp only [er_mk, List.map_cons, List.map_nil]
  cases l1 with
  | nil => rfl
  | cons z l1 => exact decide_eq_false fun e => h e.2.1
theorem causal_two {A A1 : Option Addr} {c c1 : Nat} {x y : Sc} : causalT (Sc.mk 8 A c [.mk 5 A1 c1 [x, y]]).er = decide ((Sc.mk 8 A c [.mk 5 A1 c1 [x, y]]).er = causeT y.er) := by
  simp only [er_mk, List.map_cons, List.map_nil, causalT, causeT]
  simp
theorem causal_lean {A A1 : Option Addr} {c c1 : Nat} {x y : Sc} : causalT (Sc.mk 8 A c [.mk 5 A1 c1 [x, y]]).er = decide (x.er = leanT) := by
  simp only [er_mk, List.map_cons, List.map_nil, causalT]
  simp

/-- 3 or 1. -/
def lv3 (q : Bool) : Int := if q then 3 else 1

set_option maxHeartbeats 1000000 in
theorem refLevel_any : ∀ (s : Sc) (w : World), s.In w.heap.size w → Calls Try.prog 13 #[s.val] w (RetV w (.int .i64 (levelT s.er))) := by
  rintro ⟨k0, A, c, l⟩ w hin
  have HIN := Lib.hid (hin.later (allocB w (.cells #[.int .i64 k0, .slice A l.length c] 24)))
  have HI0 := Lib.hid hin
  clear hin
  simp only [val_mk]
  obtain ⟨q, hq⟩ : ∃ q, isT 16 (Sc.mk k0 A c l).er = q := ⟨_, rfl⟩
  have hT := refIs_any (.mk k0 A c l) _ HIN.out
  rw [hq] at hT
  have HT := Lib.hid hT
  have HQ := Lib.hid hq
  clear hT hq
  cases q with
  | false =>
    rw [level_not HQ.out]
    go_enter Try.func13, Try.ntmps13
    go_wp2_with fail
    refine (callV (allocB w _) HT.out).mono ?_
    rintro e w' ⟨rfl, hb⟩
    go_wp2_with fail
    go_ret
    exact ⟨rfl, hb⟩
  | true =>
    by_cases h6 : k0 = 6
    · rw [level_last HQ.out (by rw [er_k]; exact h6)]
      subst h6
      go_enter Try.func13, Try.ntmps13
      go_wp2_with fail
      refine HT.out.mono ?_
      rintro e w' ⟨rfl, hb⟩
      have hbox := hb.cell (p := ⟨w.heap.size, 0, none⟩) (by simp)
      have hbw := (allocB w _).trans (hb.mono (allocB w _).size)
      clear hb
      simp only [World.cell?_alloc_at] at hbox
      go_wp2_with fail
      go_ret
      exact ⟨rfl, hbw⟩
    · have h6' : (Sc.mk k0 A c l).er.k ≠ 6 := by rw [er_k]; exact h6
      by_cases h8 : k0 = 8
      · subst h8
        obtain ⟨x, rfl, hx15⟩ := is_cause HQ.out rfl
        obtain ⟨hl, -, -, hall⟩ := HI0.out.out
        have hxin := hall x (by simp)
        clear hall
        obtain ⟨b, off, rfl, hb1, hc0, hc1⟩ := lies_first hl
        clear hl
        obtain ⟨xk, xA, xc, xl⟩ := x
        simp only [Sc.k, Sc.v1] at hc0 hc1
        by_cases h5 : xk = 5
        · subst h5
          obtain ⟨y, z, rfl⟩ := is_pair hx15 rfl
          obtain ⟨hl1, -, -, hall1⟩ := hxin.out
          obtain ⟨b', off', rfl, hb1', he0, he1⟩ := lies_first hl1
          obtain ⟨hf0, hf1⟩ := lies_second hl1
          have hzin := hall1 z (by simp)
          clear hall1 hl1 hxin
          obtain ⟨yk, yA, yc, yl⟩ := y
          obtain ⟨zk, zA, zc, zl⟩ := z
          simp only [Sc.k, Sc.v1] at he0 he1 hf0 hf1
          obtain ⟨q, hq⟩ : ∃ q, causalT (Sc.mk 8 (some ⟨b, off, none⟩) c [.mk 5 (some ⟨b', off', none⟩) xc [.mk yk yA yc yl, .mk zk zA zc zl]]).er = q := ⟨_, rfl⟩
          have HR : Hid (levelT (Sc.mk 8 (some ⟨b, off, none⟩) c [.mk 5 (some ⟨b', off', none⟩) xc [.mk yk yA yc yl, .mk zk zA zc zl]]).er = lv3 q) := by
            show levelT _ = _
            cases q with
            | true => exact level_cause HQ.out h6' hq
            | false => exact level_plain HQ.out h6' hq
          rw [HR.out]
          rw [causal_two] at hq
          have HC := Lib.hid hq
          have HZ := Lib.hid hzin
          clear hq HR h6' h6 hzin hx15 he0 he1
          go_enter Try.func13, Try.ntmps13
          go_wp2_with fail
          refine HT.out.mono ?_
          rintro e w1 ⟨rfl, hb⟩
          have hbox : w1.cell? ⟨w.heap.size, 0, none⟩ = some (.int .i64 8) := (hb.cell (p := ⟨w.heap.size, 0, none⟩) (by simp)).trans (by simp)
          have hbox1 : w1.cell? ⟨w.heap.size, 1, none⟩ = some (.slice (some ⟨b, off, none⟩) 1 c) := (hb.cell (p := ⟨w.heap.size, 1, none⟩) (by simp)).trans (by simp)
          have hwlt : w.heap.size < w1.heap.size := Nat.lt_of_lt_of_le (by simp) hb.size
          have hbw := (allocB w _).trans (hb.mono (allocB w _).size)
          replace hc0 := (hbw.cell (p := ⟨b, off, none⟩) hb1).trans hc0
          replace hc1 : w1.cell? ⟨b, off + 1, none⟩ = some (.slice (some ⟨b', off', none⟩) 2 xc) := (hbw.cell (p := ⟨b, off + 1, none⟩) hb1).trans hc1
          replace hf0 := (hbw.cell (p := ⟨b', off' + 2, none⟩) hb1').trans hf0
          replace hf1 := (hbw.cell (p := ⟨b', off' + 2 + 1, none⟩) hb1').trans hf1
          have l1 : b < w1.heap.size := Nat.lt_of_lt_of_le hb1 hbw.size
          have l2 : b' < w1.heap.size := Nat.lt_of_lt_of_le hb1' hbw.size
          have hbd : Below w1.heap.size w1 w1.drew := (Below.refl _ _).drew
          have HZ1 := Lib.hid ((HZ.out.later hbw).later hbd)
          have HS1 := Lib.hid ((HI0.out.later hbw).later hbd)
          have HBW := Lib.hid (hbw.trans (hbd.mono hbw.size))
          clear hb hbd hbw HZ
          go_wp2_with fail
          go_region_held3 (fun w' => w'.cell? ⟨w.heap.size, 0, none⟩ = some (.int .i64 8) ∧ w'.cell? ⟨w.heap.size, 1, none⟩ = some (.slice (some ⟨b, off, none⟩) 1 c) ∧ w'.cell? ⟨b, off, none⟩ = some (.int .i64 5) ∧ w'.cell? ⟨b, off + 1, none⟩ = some (.slice (some ⟨b', off', none⟩) 2 xc) ∧
              w'.cell? ⟨b', off' + 2, none⟩ = some (.int .i64 zk) ∧ w'.cell? ⟨b', off' + 2 + 1, none⟩ = some (.slice zA zl.length zc))
            (first
              | exact ⟨hbox, hbox1, hc0, hc1, hf0, hf1⟩
              | exact ⟨(hb2.cell hwlt).trans hbox, (hb2.cell hwlt).trans hbox1, (hb2.cell l1).trans hc0, (hb2.cell l1).trans hc1, (hb2.cell l2).trans hf0, (hb2.cell l2).trans hf1⟩
              | exact ⟨(hb3.cell hwlt).trans hbox, (hb3.cell hwlt).trans hbox1, (hb3.cell l1).trans hc0, (hb3.cell l1).trans hc1, (hb3.cell l2).trans hf0, (hb3.cell l2).trans hf1⟩)
            (first
              | (go_at_call 15; refine (refcause_any (.mk zk zA zc zl) _ HZ1.out).mono ?_; rintro e w2 ⟨⟨k2, A2, c2, l2'⟩, rfl, he2, hi2, hb2⟩; (have HE2 := Lib.hid he2; have HI2 := Lib.hid hi2; clear he2 hi2; simp only [val_mk]))
              | (go_at_call 11; refine (callV (w := w1.drew) hb2 (refsame_any (.mk 8 (some ⟨b, off, none⟩) c [.mk 5 (some ⟨b', off', none⟩) xc [.mk yk yA yc yl, .mk zk zA zc zl]]) (.mk k2 A2 c2 l2') _ (HS1.out.later hb2) HI2.out)).mono ?_; rintro e w3 ⟨rfl, hb3⟩; (rw [HE2.out, HC.out])))
          have HB3 := Lib.hid (HBW.out.trans (hb3.mono HBW.out.size))
          cases q with
          | true =>
            go_wp2_with fail
            go_ret
            exact ⟨rfl, HB3.out⟩
          | false =>
            go_wp2_with fail
            go_ret
            exact ⟨rfl, HB3.out⟩
        · rw [level_plain HQ.out h6' (causal_k1 h5)]
          clear h6' h6
          have d5 : (xk == 5) = false := beq_eq_false_iff_ne.2 h5
          clear h5
          go_enter Try.func13, Try.ntmps13
          go_wp2_with fail
          refine HT.out.mono ?_
          rintro e w' ⟨rfl, hb⟩
          have hbox := hb.cell (p := ⟨w.heap.size, 0, none⟩) (by simp)
          have hbox1 := hb.cell (p := ⟨w.heap.size, 1, none⟩) (by simp)
          have hbw := (allocB w _).trans (hb.mono (allocB w _).size)
          replace hc0 := (hbw.cell (p := ⟨b, off, none⟩) hb1).trans hc0
          clear hb hc1
          simp only [World.cell?_alloc_at] at hbox hbox1
          go_wp2_with fail
          go_quiet (fail)
          go_wp2_with fail
          go_ret
          exact ⟨rfl, below_drewN hbw _⟩
      · rw [level_plain HQ.out h6' (causal_k (by rw [er_k]; exact h8))]
        clear h6'
        have d8 : (k0 == 8) = false := beq_eq_false_iff_ne.2 h8
        clear h8
        go_enter Try.func13, Try.ntmps13
        go_wp2_with fail
        refine HT.out.mono ?_
        rintro e w' ⟨rfl, hb⟩
        have hbox := hb.cell (p := ⟨w.heap.size, 0, none⟩) (by simp)
        have hbw := (allocB w _).trans (hb.mono (allocB w _).size)
        clear hb
        simp only [World.cell?_alloc_at] at hbox
        go_wp2_with fail
        go_quiet (fail)
        go_wp2_with fail
        go_ret
        exact ⟨rfl, below_drewN hbw _⟩
end Go.Proofs.Ytohmgidmfabimaa
