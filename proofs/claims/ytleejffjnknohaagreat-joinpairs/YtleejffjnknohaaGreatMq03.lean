/- What the reference's Same does. No condition but that the values lie in memory. What the reference's short and has do. No condition but that the texts lie in memory. What the reference's fits does. No condition but that the value lies in memory. What the reference's functions on schemas do: arity, deep, isSchema. No condition but that the schema lies in memory. What the reference's deep does. No condition but that the schema lies in memory. -/
import Derived.Test.YtleejffjnknohaaGreatMq02
import Derived.Test.YtleejffjnknohaaGreatMq01
namespace Go.Proofs.YtleejffjnknohaaGreat.V4
open Go.RowKit
open C3 (Tk Asc isC ofC cmpC Nok In belAl allocB drewB RetT)

theorem sameTexts_V (A B : Option Addr) (c d : Nat) (xs ys : List Str) (v : Bool) (w : World) (hl : Lies w A xs) (hm : Lies w B ys) (hn : xs.length ≤ maxLen) (hv : decide (xs = ys) = v) :
    Calls Tryz.prog 18 #[.slice A xs.length c, .slice B ys.length d] w (RetV w (.bool v)) := by
  subst hv
  exact (R1.same_any A B c d xs ys w hl hm hn).mono fun _ _ ⟨h1, n, h2⟩ => ⟨h1, h2 ▸ below_drewN (Below.refl _ _) n⟩

theorem sameClocks_V (A A' : Option Addr) (c c' : Nat) (l l' : List Tk) (v : Bool) (w : World) (h : In w A c l) (h' : In w A' c' l') (hv : decide (l = l') = v) :
    Calls Tryz.prog 27 #[.slice A l.length c, .slice A' l'.length c'] w (RetV w (.bool v)) := hv ▸ C3.refSame_any A A' c c' l l' w h h'

theorem map_take_succ {α β : Type} {f : α → β} {l l' : List α} {i : Nat} {x y : α} (h0 : (l.take i).map f = (l'.take i).map f) (hx : l[i]? = some x) (hy : l'[i]? = some y) (he : f x = f y) : (l.take (i + 1)).map f = (l'.take (i + 1)).map f := by
  obtain ⟨hi, hx'⟩ := List.getElem?_eq_some_iff.1 hx
  obtain ⟨hj, hy'⟩ := List.getElem?_eq_some_iff.1 hy
  rw [List.take_succ_eq_append_getElem hi, List.take_succ_eq_append_getElem hj, List.map_append, List.map_append, h0, hx', hy', List.map_singleton, List.map_singleton, he]
theorem map_take_all {α β : Type} {f : α → β} {l l' : List α} {i : Nat} (h0 : (l.take i).map f = (l'.take i).map f) (hi : l.length ≤ i) (hj : l'.length ≤ i) : l.map f = l'.map f := by
  rwa [List.take_of_length_le hi, List.take_of_length_le hj] at h0
theorem map_ne_at {α β : Type} {f : α → β} {l l' : List α} {i : Nat} {x y : α} (hx : l[i]? = some x) (hy : l'[i]? = some y) (he : f x ≠ f y) : l.map f ≠ l'.map f := by
  intro e
  have := congrArg (fun z => z[i]?) e
  simp only [List.getElem?_map, hx, hy, Option.map_some] at this
  exact he (Option.some.inj this)

theorem r_false {p : Prop} [Decidable p] {r : Bool} (hr : decide p = r) (h : ¬ p) : false = r := by rw [← hr]; exact (decide_eq_false h).symm
theorem r_true {p : Prop} [Decidable p] {r : Bool} (hr : decide p = r) (h : p) : true = r := by rw [← hr]; exact (decide_eq_true h).symm

set_option maxRecDepth 100000 in
set_option maxHeartbeats 1000000 in
theorem refSameV_any : ∀ (x y : Vl) (w : World), x.In w → y.In w → Calls Tryz.prog 14 #[x.val, y.val] w (RetV w (.bool (decide (x.er = y.er)))) := by
  intro x
  induction x using Vl.ind with
  | h n m sA sc ss cA cc cs vA vc vs ih =>
    rintro ⟨n', m', sA', sc', ss', cA', cc', cs', vA', vc', vs'⟩ w hin hin'
    have hW0 : Below w.heap.size w ((w.alloc (.cells #[.int .u64 n, .int .u64 m, .slice sA ss.length sc, .slice cA cs.length cc, .slice vA vs.length vc] 32)).alloc (.cells #[.int .u64 n', .int .u64 m', .slice sA' ss'.length sc', .slice cA' cs'.length cc', .slice vA' vs'.length vc'] 32)) := belAl (allocB _ _)
    have P := hin.out
    have P' := hin'.out
    have Q := (hin.later hW0).out
    have Q' := (hin'.later hW0).out
    have hcm : cs.length ≤ 9223372036854775807 := by have := P.cb; unfold maxLen at this; omega
    have hvm : vs.length ≤ 9223372036854775807 := by have := P.vb; unfold maxLen at this; omega
    have HP := Lib.hid P
    have HP' := Lib.hid P'
    have HS := Lib.hid Q.sl
    have HS' := Lib.hid Q'.sl
    have HSB : Hid (ss.length ≤ maxLen) := Nat.le_trans P.sb.1 P.sb.2.1
    have HW0 := Lib.hid hW0
    have IH := Lib.hid ih
    clear hin hin' P P' Q Q' ih hW0
    simp only [val_mk]
    obtain ⟨r, hr⟩ : ∃ r, decide ((Vl.mk n m sA sc ss cA cc cs vA vc vs).er = (Vl.mk n' m' sA' sc' ss' cA' cc' cs' vA' vc' vs').er) = r := ⟨_, rfl⟩
    rw [hr]
    simp only [er_mk, Va.mk.injEq] at hr
    have HR := Lib.hid hr
    clear hr
    by_cases c1 : n = n'
    · subst c1
      by_cases c2 : m = m'
      · subst c2
        obtain ⟨t, ht⟩ : ∃ t, decide (ss = ss') = t := ⟨_, rfl⟩
        have HT := Lib.hid ht
        clear ht
        go_enter Tryz.func14, Tryz.ntmps14
        go_wp2_with fail
        refine (sameTexts_V sA sA' sc sc' ss ss' t _ HS.out HS'.out HSB.out HT.out).mono ?_
        rintro e w1 ⟨rfl, hb1⟩
        have a3 : w1.cell? ⟨w.heap.size, 3, none⟩ = some (.slice cA cs.length cc) := (hb1.cell (p := ⟨w.heap.size, 3, none⟩) (by simp; omega)).trans (by go_simp)
        have a4 : w1.cell? ⟨w.heap.size, 4, none⟩ = some (.slice vA vs.length vc) := (hb1.cell (p := ⟨w.heap.size, 4, none⟩) (by simp; omega)).trans (by go_simp)
        have b3 : w1.cell? ⟨w.heap.size + 1, 3, none⟩ = some (.slice cA' cs'.length cc') := (hb1.cell (p := ⟨w.heap.size + 1, 3, none⟩) (by simp)).trans (by go_simp)
        have b4 : w1.cell? ⟨w.heap.size + 1, 4, none⟩ = some (.slice vA' vs'.length vc') := (hb1.cell (p := ⟨w.heap.size + 1, 4, none⟩) (by simp)).trans (by go_simp)
        have hsz : w.heap.size + 1 < w1.heap.size := Nat.lt_of_lt_of_le (by simp) hb1.size
        have hbw1 : Below w.heap.size w w1 := HW0.out.trans (hb1.mono HW0.out.size)
        clear hb1 HW0 HS HS'
        cases t with
        | false =>
          go_wp2_with fail
          go_ret
          exact ⟨ret_bool (r_false HR.out fun h => of_decide_eq_false HT.out h.2.2.1), hbw1⟩
        | true =>
          by_cases c3 : cs.length = cs'.length
          · have C3' := Lib.hid c3
            have hle : cs'.length = cs.length := c3.symm
            clear c3
            rw [hle] at b3
            clear hle
            by_cases c4 : vs.length = vs'.length
            · have C4' := Lib.hid c4
              have hle : vs'.length = vs.length := c4.symm
              clear c4
              rw [hle] at b4
              clear hle
              go_wp2_with fail
              go_loopw [5] (fun iv wr => ∃ (k : Nat), k ≤ cs.length ∧ iv = .int .i64 k ∧ Hid ((cs.take k).map Ck.l = (cs'.take k).map Ck.l) ∧ Below w.heap.size w wr ∧ wr.cell? ⟨w.heap.size, 3, none⟩ = some (.slice cA cs.length cc) ∧ wr.cell? ⟨w.heap.size, 4, none⟩ = some (.slice vA vs.length vc) ∧ wr.cell? ⟨w.heap.size + 1, 3, none⟩ = some (.slice cA' cs.length cc') ∧ wr.cell? ⟨w.heap.size + 1, 4, none⟩ = some (.slice vA' vs.length vc') ∧ w.heap.size + 1 < wr.heap.size) (fun iv _ => cs.length - (intOf iv).toNat)
              case atStart => exact ⟨0, Nat.zero_le _, rfl, by simp [Hid], hbw1, a3, a4, b3, b4, hsz⟩
              case round =>
                clear a3 a4 b3 b4 hsz hbw1
                obtain ⟨k, hk, rfl, h0, hbw, a3, a4, b3, b4, hsz⟩ := hrel
                by_cases hlt : k < cs.length
                · have hlt' : k < cs'.length := by have := C3'.out; omega
                  obtain ⟨x, hx⟩ : ∃ x, cs[k]? = some x := ⟨_, List.getElem?_eq_getElem hlt⟩
                  obtain ⟨y, hy⟩ : ∃ y, cs'[k]? = some y := ⟨_, List.getElem?_eq_getElem hlt'⟩
                  obtain ⟨b, off, rfl, hb, hc⟩ := clock_at (HP.out.cl.below hbw) hx
                  obtain ⟨b', off', rfl, hb', hc'⟩ := clock_at (HP'.out.cl.below hbw) hy
                  have HIX := Lib.hid ((HP.out.ck x (List.mem_of_getElem? hx)).later hbw)
                  have HIY := Lib.hid ((HP'.out.ck y (List.mem_of_getElem? hy)).later hbw)
                  have HX := Lib.hid hx
                  have HY := Lib.hid hy
                  clear hx hy
                  obtain ⟨xA, xc, xl⟩ := x
                  obtain ⟨yA, yc, yl⟩ := y
                  simp only [Ck.v] at hc hc'
                  dsimp only at HIX HIY
                  obtain ⟨q, hq⟩ : ∃ q, decide (xl = yl) = q := ⟨_, rfl⟩
                  have HQ := Lib.hid hq
                  clear hq
                  have hlti : (k : Int) < (cs.length : Int) := by omega
                  have HBW := Lib.hid hbw
                  clear hbw
                  go_wp2_with fail
                  go_still_tail 10, (by kernel_rfl)
                  change wpList _ _ _ _ _ wr.drew
                  go_wp2_with fail
                  refine (sameClocks_V xA yA xc yc xl yl q _ (HIX.out.later (drewB wr)) (HIY.out.later (drewB wr)) HQ.out).mono ?_
                  rintro e w2 ⟨rfl, hb2⟩
                  have hb3 : Below wr.heap.size wr w2 := (drewB wr).trans hb2
                  replace a3 := (hb3.cell (p := ⟨w.heap.size, 3, none⟩) (by show w.heap.size < _; omega)).trans a3
                  replace a4 := (hb3.cell (p := ⟨w.heap.size, 4, none⟩) (by show w.heap.size < _; omega)).trans a4
                  replace b3 := (hb3.cell (p := ⟨w.heap.size + 1, 3, none⟩) hsz).trans b3
                  replace b4 := (hb3.cell (p := ⟨w.heap.size + 1, 4, none⟩) hsz).trans b4
                  replace hsz := Nat.lt_of_lt_of_le hsz hb3.size
                  have hbw2 : Below w.heap.size w w2 := HBW.out.trans (hb3.mono HBW.out.size)
                  clear hb2 hb3 hc hc'
                  cases q with
                  | false =>
                    go_wp2_with fail
                    go_ret
                    exact ⟨ret_bool (r_false HR.out fun h => map_ne_at (f := Ck.l) HX.out HY.out (of_decide_eq_false HQ.out) h.2.2.2.1), hbw2⟩
                  | true =>
                    go_wp2_with fail
                    go_roundw
                    case rel => exact ⟨k + 1, by omega, by go_num, map_take_succ h0.out HX.out HY.out (of_decide_eq_true HQ.out), hbw2, a3, a4, b3, b4, hsz⟩
                    case measure => simp [intOf]; omega
                · have HCE : Hid (cs.map Ck.l = cs'.map Ck.l) := map_take_all h0.out (by omega) (by have := C3'.out; omega)
                  clear h0
                  go_wp2_with fail
                  go_loopw [6] (fun iv wr => ∃ (k : Nat), k ≤ vs.length ∧ iv = .int .i64 k ∧ Hid ((vs.take k).map Vl.er = (vs'.take k).map Vl.er) ∧ Below w.heap.size w wr ∧ wr.cell? ⟨w.heap.size, 4, none⟩ = some (.slice vA vs.length vc) ∧ wr.cell? ⟨w.heap.size + 1, 4, none⟩ = some (.slice vA' vs.length vc') ∧ w.heap.size + 1 < wr.heap.size) (fun iv _ => vs.length - (intOf iv).toNat)
                  case atStart => exact ⟨0, Nat.zero_le _, rfl, by simp [Hid], hbw, a4, b4, hsz⟩
                  case round =>
                    clear a3 a4 b3 b4 hsz hbw
                    rename_i wr
                    obtain ⟨k, hk, rfl, h0, hbw, a4, b4, hsz⟩ := hrel
                    by_cases hlt : k < vs.length
                    · have hlt' : k < vs'.length := by have := C4'.out; omega
                      obtain ⟨x, hx⟩ : ∃ x, vs[k]? = some x := ⟨_, List.getElem?_eq_getElem hlt⟩
                      obtain ⟨y, hy⟩ : ∃ y, vs'[k]? = some y := ⟨_, List.getElem?_eq_getElem hlt'⟩
                      obtain ⟨b, off, rfl, hb, hc0, hc1, hc2, hc3, hc4⟩ := value_at (HP.out.vl.below hbw) hx
                      obtain ⟨b', off', rfl, hb', hd0, hd1, hd2, hd3, hd4⟩ := value_at (HP'.out.vl.below hbw) hy
                      have HIX : Hid (x.In _) := (HP.out.vk x (List.mem_of_getElem? hx)).later hbw
                      have HIY : Hid (y.In _) := (HP'.out.vk y (List.mem_of_getElem? hy)).later hbw
                      have HX := Lib.hid hx
                      have HY := Lib.hid hy
                      have HM := Lib.hid (List.mem_of_getElem? hx)
                      clear hx hy
                      obtain ⟨xn, xm, xsA, xsc, xss, xcA, xcc, xcs, xvA, xvc, xvs⟩ := x
                      obtain ⟨yn, ym, ysA, ysc, yss, ycA, ycc, ycs, yvA, yvc, yvs⟩ := y
                      simp only [Vl.n, Vl.m, Vl.s1, Vl.c1, Vl.v1] at hc0 hc1 hc2 hc3 hc4 hd0 hd1 hd2 hd3 hd4
                      obtain ⟨q, hq⟩ : ∃ q, decide ((Vl.mk xn xm xsA xsc xss xcA xcc xcs xvA xvc xvs).er = (Vl.mk yn ym ysA ysc yss ycA ycc ycs yvA yvc yvs).er) = q := ⟨_, rfl⟩
                      have HQ := Lib.hid hq
                      clear hq
                      have hlti : (k : Int) < (vs.length : Int) := by omega
                      have HBW := Lib.hid hbw
                      clear hbw
                      go_wp2_with fail
                      go_still_tail 10, (by kernel_rfl)
                      change wpList _ _ _ _ _ wr.drew
                      go_wp2_with fail
                      refine (IH.out _ HM.out _ _ (HIX.out.later (drewB wr)) (HIY.out.later (drewB wr))).mono ?_
                      rintro e w2 ⟨rfl, hb2⟩
                      rw [HQ.out]
                      have hb3 : Below wr.heap.size wr w2 := (drewB wr).trans hb2
                      replace a4 := (hb3.cell (p := ⟨w.heap.size, 4, none⟩) (by show w.heap.size < _; omega)).trans a4
                      replace b4 := (hb3.cell (p := ⟨w.heap.size + 1, 4, none⟩) hsz).trans b4
                      replace hsz := Nat.lt_of_lt_of_le hsz hb3.size
                      have hbw2 : Below w.heap.size w w2 := HBW.out.trans (hb3.mono HBW.out.size)
                      clear hb2 hb3 hc0 hc1 hc2 hc3 hc4 hd0 hd1 hd2 hd3 hd4
                      cases q with
                      | false =>
                        go_wp2_with fail
                        go_ret
                        exact ⟨ret_bool (r_false HR.out fun h => map_ne_at (f := Vl.er) HX.out HY.out (of_decide_eq_false HQ.out) h.2.2.2.2), hbw2⟩
                      | true =>
                        go_wp2_with fail
                        go_roundw
                        case rel => exact ⟨k + 1, by omega, by go_num, map_take_succ (f := Vl.er) h0.out HX.out HY.out (of_decide_eq_true HQ.out), hbw2, a4, b4, hsz⟩
                        case measure => simp [intOf]; omega
                    · go_wp2_with fail
                      go_ret
                      exact ⟨ret_bool (r_true HR.out ⟨by simp, by simp, of_decide_eq_true HT.out, HCE.out, map_take_all h0.out (by omega) (by have := C4'.out; omega)⟩), hbw⟩
            · have d4 : ¬ ((vs.length : Int) = vs'.length) := by omega
              have D4 := Lib.hid c4
              clear c4
              go_wp2_with fail
              go_ret
              exact ⟨ret_bool (r_false HR.out fun h => D4.out (by simpa using congrArg List.length h.2.2.2.2)), hbw1⟩
          · have d3 : ¬ ((cs.length : Int) = cs'.length) := by omega
            have D3 := Lib.hid c3
            clear c3
            go_wp2_with fail
            go_ret
            exact ⟨ret_bool (r_false HR.out fun h => D3.out (by simpa using congrArg List.length h.2.2.2.1)), hbw1⟩
      · have d2 : (m == m') = false := by simp [c2]
        have D2 := Lib.hid c2
        clear c2
        go_enter Tryz.func14, Tryz.ntmps14
        go_wp2_with fail
        go_ret
        exact ⟨ret_bool (r_false HR.out fun h => D2.out h.2.1), HW0.out⟩
    · have d1 : (n == n') = false := by simp [c1]
      have D1 := Lib.hid c1
      clear c1
      go_enter Tryz.func14, Tryz.ntmps14
      go_wp2_with fail
      go_ret
      exact ⟨ret_bool (r_false HR.out fun h => D1.out h.1), HW0.out⟩
end Go.Proofs.YtleejffjnknohaaGreat.V4

namespace Go.Proofs.YtleejffjnknohaaGreat.V4
open Go.RowKit
open C3 (Tk Asc isC ofC cmpC Nok In belAl allocB drewB RetT)

/-- No text of more than 16 bytes. -/
def shortV (ss : List Str) : Bool := ss.all fun s => decide (s.length ≤ 16)

theorem all_succ {α : Type} {p : α → Bool} {l : List α} {k : Nat} {x : α} (h0 : (l.take k).all p = true) (hx : l[k]? = some x) (h : p x = true) : (l.take (k + 1)).all p = true := by
  obtain ⟨hi, he⟩ := List.getElem?_eq_some_iff.1 hx
  rw [List.take_succ_eq_append_getElem hi, List.all_append, h0, he]
  simp [h]
theorem all_end {α : Type} {p : α → Bool} {l : List α} {k : Nat} (h0 : (l.take k).all p = true) (h : l.length ≤ k) : l.all p = true := by rwa [List.take_of_length_le h] at h0
theorem all_fail {α : Type} {p : α → Bool} {l : List α} {k : Nat} {x : α} (hx : l[k]? = some x) (h : p x = false) : l.all p = false := by
  rw [List.all_eq_false]
  exact ⟨x, List.mem_of_getElem? hx, by simp [h]⟩

theorem S_size (x : Str) : (S x).size = x.length := by simp [S, ByteArray.size]

set_option maxHeartbeats 400000 in
theorem refShort_any (A : Option Addr) (c : Nat) (ss : List Str) (w : World) (hl : Lies w A ss) (hn : ss.length ≤ maxLen) (ht : ∀ s ∈ ss, s.length ≤ maxLen) :
    Calls Tryz.prog 81 #[.slice A ss.length c] w fun e w' => e = .returned (.bool (shortV ss)) ∧ w = w' := by
  unfold maxLen at hn
  have HT := Lib.hid ht
  clear ht
  go_enter Tryz.func81, Tryz.ntmps81
  go_wp2_with fail
  go_loop [3] (fun iv => ∃ k : Nat, k ≤ ss.length ∧ iv = .int .i64 k ∧ Hid ((ss.take k).all (fun s => decide (s.length ≤ 16)) = true)) (fun iv => ss.length - (intOf iv).toNat)
  case atStart => exact ⟨0, Nat.zero_le _, rfl, by simp [Hid]⟩
  case round =>
    obtain ⟨k, hk, rfl, h0⟩ := hrel
    by_cases hlt : k < ss.length
    · obtain ⟨b, off, rfl, hb, hc⟩ := hl.get hlt
      obtain ⟨x, hx⟩ : ∃ x, ss[k]? = some x := ⟨_, List.getElem?_eq_getElem hlt⟩
      have hc0 := hc k x hx
      have HX := Lib.hid hx
      have hxm : x.length ≤ 9223372036854775807 := by have := HT.out x (List.mem_of_getElem? hx); unfold maxLen at this; omega
      have hxs : (S x).size = x.length := S_size x
      clear hx hc hl
      by_cases c1 : x.length ≤ 16
      · have HP : Hid ((fun s : Str => decide (s.length ≤ 16)) x = true) := decide_eq_true c1
        have d1 : decide (16 < (x.length : Int)) = false := decide_eq_false (by omega)
        go_wp2_with fail
        go_round
        case rel => exact ⟨k + 1, by omega, by go_num, all_succ h0.out HX.out HP.out⟩
        case measure => simp [intOf]; omega
      · have HP : Hid ((fun s : Str => decide (s.length ≤ 16)) x = false) := decide_eq_false c1
        have d1 : 16 < x.length := by omega
        go_wp2_with fail
        go_ret
        exact ⟨ret_bool (all_fail HX.out HP.out).symm, rfl⟩
    · go_wp2_with fail
      go_ret
      exact ⟨ret_bool (all_end h0.out (by omega)).symm, rfl⟩

/-- Has a value no parts but these? By its numbers and its lists' lengths. -/
def hasN (n m : Int) (a b d : Nat) (p q r s t : Bool) : Bool := (p || decide (n = 0)) && ((q || decide (m = 0)) && ((r || decide (a = 0)) && ((s || decide (b = 0)) && (t || decide (d = 0)))))

set_option maxHeartbeats 8000000 in
theorem refHas_any (n m : Int) (sA : Option Addr) (sc a : Nat) (cA : Option Addr) (cc b : Nat) (vA : Option Addr) (vc d : Nat) (p q r s t : Bool) (w : World) :
    Calls Tryz.prog 80 #[.agg #[.int .u64 n, .int .u64 m, .slice sA a sc, .slice cA b cc, .slice vA d vc], .bool p, .bool q, .bool r, .bool s, .bool t] w (RetV w (.bool (hasN n m a b d p q r s t))) := by
  have hp : p = true ∨ (p = false ∧ n = 0) ∨ (p = false ∧ ¬ n = 0) := by cases p <;> simp <;> exact Decidable.em _
  have hq : q = true ∨ (q = false ∧ m = 0) ∨ (q = false ∧ ¬ m = 0) := by cases q <;> simp <;> exact Decidable.em _
  have hr : r = true ∨ (r = false ∧ a = 0) ∨ (r = false ∧ ¬ a = 0) := by cases r <;> simp <;> exact Decidable.em _
  have hs : s = true ∨ (s = false ∧ b = 0) ∨ (s = false ∧ ¬ b = 0) := by cases s <;> simp <;> exact Decidable.em _
  have ht : t = true ∨ (t = false ∧ d = 0) ∨ (t = false ∧ ¬ d = 0) := by cases t <;> simp <;> exact Decidable.em _
  obtain ⟨R, hR⟩ : ∃ R, hasN n m a b d p q r s t = R := ⟨_, rfl⟩
  rw [hR]
  have HR := Lib.hid hR
  clear hR
  rcases hp with rfl | ⟨rfl, rfl⟩ | ⟨rfl, h1⟩
  rotate_left 2
  · have e1 : (n == 0) = false := by simp [h1]
    have HF : Hid (R = false) := by show R = false; rw [← HR.out]; simp [hasN, h1]
    clear hq hr hs ht h1
    go_enter Tryz.func80, Tryz.ntmps80
    go_wp2_with fail
    go_ret
    exact ⟨ret_bool HF.out.symm, allocB _ _⟩
  all_goals
    rcases hq with rfl | ⟨rfl, rfl⟩ | ⟨rfl, h1⟩
    rotate_left 2
    · have e1 : (m == 0) = false := by simp [h1]
      have HF : Hid (R = false) := by show R = false; rw [← HR.out]; simp [hasN, h1]
      clear hr hs ht h1
      go_enter Tryz.func80, Tryz.ntmps80
      go_wp2_with fail
      go_ret
      exact ⟨ret_bool HF.out.symm, allocB _ _⟩
    all_goals
      rcases hr with rfl | ⟨rfl, rfl⟩ | ⟨rfl, h1⟩
      rotate_left 2
      · have e1 : ((a : Int) == 0) = false := by simp [h1]
        have HF : Hid (R = false) := by show R = false; rw [← HR.out]; simp [hasN, h1]
        clear hs ht
        go_enter Tryz.func80, Tryz.ntmps80
        go_wp2_with fail
        go_ret
        exact ⟨ret_bool HF.out.symm, allocB _ _⟩
      all_goals
        rcases hs with rfl | ⟨rfl, rfl⟩ | ⟨rfl, h1⟩
        rotate_left 2
        · have e1 : ((b : Int) == 0) = false := by simp [h1]
          have HF : Hid (R = false) := by show R = false; rw [← HR.out]; simp [hasN, h1]
          clear ht
          go_enter Tryz.func80, Tryz.ntmps80
          go_wp2_with fail
          go_ret
          exact ⟨ret_bool HF.out.symm, allocB _ _⟩
        all_goals
          rcases ht with rfl | ⟨rfl, rfl⟩ | ⟨rfl, h1⟩
          rotate_left 2
          · have e1 : ((d : Int) == 0) = false := by simp [h1]
            have HF : Hid (R = false) := by show R = false; rw [← HR.out]; simp [hasN, h1]
            go_enter Tryz.func80, Tryz.ntmps80
            go_wp2_with fail
            go_ret
            exact ⟨ret_bool HF.out.symm, allocB _ _⟩
          all_goals
            have HF : Hid (R = true) := by show R = true; rw [← HR.out]; simp [hasN]
            go_enter Tryz.func80, Tryz.ntmps80
            go_wp2_with fail
            go_ret
            exact ⟨ret_bool HF.out.symm, allocB _ _⟩
end Go.Proofs.YtleejffjnknohaaGreat.V4

namespace Go.Proofs.YtleejffjnknohaaGreat.V4
open Go.RowKit
open C3 (Tk Asc isC ofC cmpC Nok In belAl allocB drewB RetT)

def hasV (x : Va) (p q r s t : Bool) : Bool := hasN x.n x.m x.s.length x.c.length x.v.length p q r s t

/-- Has a value the parts that its kind has, whatever is in them? -/
def fitsV (k : Int) (x : Va) : Bool :=
  if k = 1 then hasV x true false false false false
  else if k = 2 then hasV x true false false false false && decide (x.n ≤ 1)
  else if k = 3 then hasV x false false true false false && shortV x.s
  else if k = 4 then hasV x false false true false true && (shortV x.s && decide (x.s.length = x.v.length))
  else if k = 5 then hasV x false false false false true && decide (x.v.length = 2)
  else if k = 6 then (if x.s.length = 0 then hasV x false false false false false else hasV x true true true false false && (decide (x.s.length = 1) && (shortV x.s && (decide (x.n ≠ 0) || (decide (x.m ≠ 0) || decide (x.s ≠ [[]]))))))
  else if k = 7 then hasV x false false false true false && decide (x.c.length ≤ 1)
  else hasV x false false false true true && decide (x.c.length = x.v.length)

theorem fits_1 (n m : Int) (s : List Str) (c : List (List Tk)) (v : List Va) : fitsV 1 (.mk n m s c v) = (hasN n m s.length c.length v.length true false false false false) := by unfold fitsV; rw [if_pos rfl]; rfl
theorem fits_2 (n m : Int) (s : List Str) (c : List (List Tk)) (v : List Va) : fitsV 2 (.mk n m s c v) = (hasN n m s.length c.length v.length true false false false false && decide (n ≤ 1)) := by unfold fitsV; rw [if_neg (by decide), if_pos rfl]; rfl
theorem fits_3 (n m : Int) (s : List Str) (c : List (List Tk)) (v : List Va) : fitsV 3 (.mk n m s c v) = (hasN n m s.length c.length v.length false false true false false && shortV s) := by unfold fitsV; rw [if_neg (by decide), if_neg (by decide), if_pos rfl]; rfl
theorem fits_4 (n m : Int) (s : List Str) (c : List (List Tk)) (v : List Va) : fitsV 4 (.mk n m s c v) = (hasN n m s.length c.length v.length false false true false true && (shortV s && decide (s.length = v.length))) := by unfold fitsV; rw [if_neg (by decide), if_neg (by decide), if_neg (by decide), if_pos rfl]; rfl
theorem fits_5 (n m : Int) (s : List Str) (c : List (List Tk)) (v : List Va) : fitsV 5 (.mk n m s c v) = (hasN n m s.length c.length v.length false false false false true && decide (v.length = 2)) := by unfold fitsV; rw [if_neg (by decide), if_neg (by decide), if_neg (by decide), if_neg (by decide), if_pos rfl]; rfl
theorem fits_6 (n m : Int) (s : List Str) (c : List (List Tk)) (v : List Va) : fitsV 6 (.mk n m s c v) = (if s.length = 0 then hasN n m s.length c.length v.length false false false false false else hasN n m s.length c.length v.length true true true false false && (decide (s.length = 1) && (shortV s && (decide (n ≠ 0) || (decide (m ≠ 0) || decide (s ≠ [[]])))))) := by unfold fitsV; rw [if_neg (by decide), if_neg (by decide), if_neg (by decide), if_neg (by decide), if_neg (by decide), if_pos rfl]; rfl
theorem fits_7 (n m : Int) (s : List Str) (c : List (List Tk)) (v : List Va) : fitsV 7 (.mk n m s c v) = (hasN n m s.length c.length v.length false false false true false && decide (c.length ≤ 1)) := by unfold fitsV; rw [if_neg (by decide), if_neg (by decide), if_neg (by decide), if_neg (by decide), if_neg (by decide), if_neg (by decide), if_pos rfl]; rfl

theorem refHas_at (n m : Int) (sA : Option Addr) (sc a : Nat) (cA : Option Addr) (cc b : Nat) (vA : Option Addr) (vc d : Nat) (p q r s t v : Bool) (w : World) (hv : hasN n m a b d p q r s t = v) :
    Calls Tryz.prog 80 #[.agg #[.int .u64 n, .int .u64 m, .slice sA a sc, .slice cA b cc, .slice vA d vc], .bool p, .bool q, .bool r, .bool s, .bool t] w (RetV w (.bool v)) := hv ▸ refHas_any n m sA sc a cA cc b vA vc d p q r s t w
theorem refShort_at (A : Option Addr) (c : Nat) (ss : List Str) (v : Bool) (w : World) (hl : Lies w A ss) (hn : ss.length ≤ maxLen) (ht : ∀ s ∈ ss, s.length ≤ maxLen) (hv : shortV ss = v) :
    Calls Tryz.prog 81 #[.slice A ss.length c] w fun e w' => e = .returned (.bool v) ∧ w = w' := hv ▸ refShort_any A c ss w hl hn ht

theorem fits_ne {n m : Int} (k : Int) {s : List Str} {c : List (List Tk)} {v : List Va} (h1 : k ≠ 1) (h2 : k ≠ 2) (h3 : k ≠ 3) (h4 : k ≠ 4) (h5 : k ≠ 5) (h6 : k ≠ 6) (h7 : k ≠ 7) : fitsV k (.mk n m s c v) = (hasN n m s.length c.length v.length false false false true true && decide (c.length = v.length)) := by
  unfold fitsV hasV
  rw [if_neg h1, if_neg h2, if_neg h3, if_neg h4, if_neg h5, if_neg h6, if_neg h7]
  rfl

set_option maxRecDepth 100000 in
set_option maxHeartbeats 4000000 in
theorem refFits_any (k : Int) (A : Option Addr) (c ln : Nat) (x : Vl) (w : World) (hin : x.In w) : Calls Tryz.prog 50 #[.agg #[.int .i64 k, .slice A ln c], x.val] w (RetV w (.bool (fitsV k x.er))) := by
  obtain ⟨n, m, sA, sc, ss, cA, cc, cs, vA, vc, vs⟩ := x
  have hW0 : Below w.heap.size w ((w.alloc (.cells #[.int .i64 k, .slice A ln c] 24)).alloc (.cells #[.int .u64 n, .int .u64 m, .slice sA ss.length sc, .slice cA cs.length cc, .slice vA vs.length vc] 32)) := belAl (allocB _ _)
  have P := hin.out
  have HP := Lib.hid P
  have HSB : Hid (ss.length ≤ maxLen) := Nat.le_trans P.sb.1 P.sb.2.1
  have HST := Lib.hid P.st
  have HSL := Lib.hid P.sl
  have hsm : ss.length ≤ 9223372036854775807 := by have := P.sb; unfold maxLen at this; omega
  have hcm : cs.length ≤ 9223372036854775807 := by have := P.cb; unfold maxLen at this; omega
  have hvm : vs.length ≤ 9223372036854775807 := by have := P.vb; unfold maxLen at this; omega
  obtain ⟨hn0, hn1⟩ := P.hn
  obtain ⟨hm0, hm1⟩ := P.hm
  have HW0 := Lib.hid hW0
  clear hin P hW0
  simp only [val_mk, er_mk]
  by_cases k1 : k = 1
  · subst k1
    obtain ⟨t, ht⟩ : ∃ z, hasN n m ss.length (cs.map Ck.l).length (vs.map Vl.er).length true false false false false = z := ⟨_, rfl⟩
    have HF : Hid (fitsV 1 (.mk n m ss (cs.map Ck.l) (vs.map Vl.er)) = (t)) := by
      show fitsV _ _ = _
      rw [fits_1, ht]
    have H_t : Hid (hasN n m ss.length cs.length vs.length true false false false false = t) := by show _ = _; rw [← ht, List.length_map, List.length_map]
    clear ht
    go_enter Tryz.func50, Tryz.ntmps50
    go_wp2_with fail
    refine (refHas_at n m sA sc ss.length cA cc cs.length vA vc vs.length true false false false false t _ H_t.out).mono ?_
    rintro e w1 ⟨rfl, hb1⟩
    have hbw1 : Below w.heap.size w w1 := HW0.out.trans (hb1.mono HW0.out.size)
    have a0 : w1.cell? ⟨w.heap.size + 1, 0, none⟩ = some (.int .u64 n) := (hb1.cell (p := ⟨w.heap.size + 1, 0, none⟩) (by simp)).trans (by go_simp)
    have a1 : w1.cell? ⟨w.heap.size + 1, 1, none⟩ = some (.int .u64 m) := (hb1.cell (p := ⟨w.heap.size + 1, 1, none⟩) (by simp)).trans (by go_simp)
    have a2 : w1.cell? ⟨w.heap.size + 1, 2, none⟩ = some (.slice sA ss.length sc) := (hb1.cell (p := ⟨w.heap.size + 1, 2, none⟩) (by simp)).trans (by go_simp)
    have a3 : w1.cell? ⟨w.heap.size + 1, 3, none⟩ = some (.slice cA cs.length cc) := (hb1.cell (p := ⟨w.heap.size + 1, 3, none⟩) (by simp)).trans (by go_simp)
    have a4 : w1.cell? ⟨w.heap.size + 1, 4, none⟩ = some (.slice vA vs.length vc) := (hb1.cell (p := ⟨w.heap.size + 1, 4, none⟩) (by simp)).trans (by go_simp)
    have HL1 : Hid (Lies w1 sA ss) := HSL.out.below hbw1
    clear hb1 HW0
    cases t with
    | false =>
      go_wp2_with fail
      go_ret
      exact ⟨ret_bool HF.out.symm, hbw1⟩
    | true =>
      go_wp2_with fail
      go_ret
      exact ⟨ret_bool HF.out.symm, hbw1⟩
  · skip
    by_cases k2 : k = 2
    · subst k2
      obtain ⟨t, ht⟩ : ∃ z, hasN n m ss.length (cs.map Ck.l).length (vs.map Vl.er).length true false false false false = z := ⟨_, rfl⟩
      obtain ⟨p, hp⟩ : ∃ z, decide (n ≤ 1) = z := ⟨_, rfl⟩
      have HF : Hid (fitsV 2 (.mk n m ss (cs.map Ck.l) (vs.map Vl.er)) = (t && p)) := by
        show fitsV _ _ = _
        rw [fits_2, ht, hp]
      have H_t : Hid (hasN n m ss.length cs.length vs.length true false false false false = t) := by show _ = _; rw [← ht, List.length_map, List.length_map]
      clear ht
      have H_p := Lib.hid hp
      clear hp
      go_enter Tryz.func50, Tryz.ntmps50
      go_wp2_with fail
      refine (refHas_at n m sA sc ss.length cA cc cs.length vA vc vs.length true false false false false t _ H_t.out).mono ?_
      rintro e w1 ⟨rfl, hb1⟩
      have hbw1 : Below w.heap.size w w1 := HW0.out.trans (hb1.mono HW0.out.size)
      have a0 : w1.cell? ⟨w.heap.size + 1, 0, none⟩ = some (.int .u64 n) := (hb1.cell (p := ⟨w.heap.size + 1, 0, none⟩) (by simp)).trans (by go_simp)
      have a1 : w1.cell? ⟨w.heap.size + 1, 1, none⟩ = some (.int .u64 m) := (hb1.cell (p := ⟨w.heap.size + 1, 1, none⟩) (by simp)).trans (by go_simp)
      have a2 : w1.cell? ⟨w.heap.size + 1, 2, none⟩ = some (.slice sA ss.length sc) := (hb1.cell (p := ⟨w.heap.size + 1, 2, none⟩) (by simp)).trans (by go_simp)
      have a3 : w1.cell? ⟨w.heap.size + 1, 3, none⟩ = some (.slice cA cs.length cc) := (hb1.cell (p := ⟨w.heap.size + 1, 3, none⟩) (by simp)).trans (by go_simp)
      have a4 : w1.cell? ⟨w.heap.size + 1, 4, none⟩ = some (.slice vA vs.length vc) := (hb1.cell (p := ⟨w.heap.size + 1, 4, none⟩) (by simp)).trans (by go_simp)
      have HL1 : Hid (Lies w1 sA ss) := HSL.out.below hbw1
      clear hb1 HW0
      cases t with
      | false =>
        go_wp2_with fail
        go_ret
        exact ⟨ret_bool HF.out.symm, hbw1⟩
      | true =>
        cases p with
        | false =>
          have cx := of_decide_eq_false H_p.out
          have dx : decide (n ≤ 1) = false := decide_eq_false cx
          clear cx
          go_wp2_with fail
          go_ret
          exact ⟨ret_bool HF.out.symm, hbw1⟩
        | true =>
          have cx := of_decide_eq_true H_p.out
          have dx : n ≤ 1 := cx
          clear cx
          go_wp2_with fail
          go_ret
          exact ⟨ret_bool HF.out.symm, hbw1⟩
    · skip
      by_cases k3 : k = 3
      · subst k3
        obtain ⟨t, ht⟩ : ∃ z, hasN n m ss.length (cs.map Ck.l).length (vs.map Vl.er).length false false true false false = z := ⟨_, rfl⟩
        obtain ⟨u, hu⟩ : ∃ z, shortV ss = z := ⟨_, rfl⟩
        have HF : Hid (fitsV 3 (.mk n m ss (cs.map Ck.l) (vs.map Vl.er)) = (t && u)) := by
          show fitsV _ _ = _
          rw [fits_3, ht, hu]
        have H_t : Hid (hasN n m ss.length cs.length vs.length false false true false false = t) := by show _ = _; rw [← ht, List.length_map, List.length_map]
        clear ht
        have H_u := Lib.hid hu
        clear hu
        go_enter Tryz.func50, Tryz.ntmps50
        go_wp2_with fail
        refine (refHas_at n m sA sc ss.length cA cc cs.length vA vc vs.length false false true false false t _ H_t.out).mono ?_
        rintro e w1 ⟨rfl, hb1⟩
        have hbw1 : Below w.heap.size w w1 := HW0.out.trans (hb1.mono HW0.out.size)
        have a0 : w1.cell? ⟨w.heap.size + 1, 0, none⟩ = some (.int .u64 n) := (hb1.cell (p := ⟨w.heap.size + 1, 0, none⟩) (by simp)).trans (by go_simp)
        have a1 : w1.cell? ⟨w.heap.size + 1, 1, none⟩ = some (.int .u64 m) := (hb1.cell (p := ⟨w.heap.size + 1, 1, none⟩) (by simp)).trans (by go_simp)
        have a2 : w1.cell? ⟨w.heap.size + 1, 2, none⟩ = some (.slice sA ss.length sc) := (hb1.cell (p := ⟨w.heap.size + 1, 2, none⟩) (by simp)).trans (by go_simp)
        have a3 : w1.cell? ⟨w.heap.size + 1, 3, none⟩ = some (.slice cA cs.length cc) := (hb1.cell (p := ⟨w.heap.size + 1, 3, none⟩) (by simp)).trans (by go_simp)
        have a4 : w1.cell? ⟨w.heap.size + 1, 4, none⟩ = some (.slice vA vs.length vc) := (hb1.cell (p := ⟨w.heap.size + 1, 4, none⟩) (by simp)).trans (by go_simp)
        have HL1 : Hid (Lies w1 sA ss) := HSL.out.below hbw1
        clear hb1 HW0
        cases t with
        | false =>
          go_wp2_with fail
          go_ret
          exact ⟨ret_bool HF.out.symm, hbw1⟩
        | true =>
          go_wp2_with fail
          refine (refShort_at sA sc ss u _ HL1.out HSB.out HST.out H_u.out).mono ?_
          rintro e w2 ⟨rfl, rfl⟩
          cases u with
          | false =>
            go_wp2_with fail
            go_ret
            exact ⟨ret_bool HF.out.symm, hbw1⟩
          | true =>
            go_wp2_with fail
            go_ret
            exact ⟨ret_bool HF.out.symm, hbw1⟩
      · skip
        by_cases k4 : k = 4
        · subst k4
          obtain ⟨t, ht⟩ : ∃ z, hasN n m ss.length (cs.map Ck.l).length (vs.map Vl.er).length false false true false true = z := ⟨_, rfl⟩
          obtain ⟨u, hu⟩ : ∃ z, shortV ss = z := ⟨_, rfl⟩
          obtain ⟨p, hp⟩ : ∃ z, decide (ss.length = (vs.map Vl.er).length) = z := ⟨_, rfl⟩
          have HF : Hid (fitsV 4 (.mk n m ss (cs.map Ck.l) (vs.map Vl.er)) = (t && (u && p))) := by
            show fitsV _ _ = _
            rw [fits_4, ht, hu, hp]
          have H_t : Hid (hasN n m ss.length cs.length vs.length false false true false true = t) := by show _ = _; rw [← ht, List.length_map, List.length_map]
          clear ht
          have H_u := Lib.hid hu
          clear hu
          have H_p := Lib.hid hp
          clear hp
          go_enter Tryz.func50, Tryz.ntmps50
          go_wp2_with fail
          refine (refHas_at n m sA sc ss.length cA cc cs.length vA vc vs.length false false true false true t _ H_t.out).mono ?_
          rintro e w1 ⟨rfl, hb1⟩
          have hbw1 : Below w.heap.size w w1 := HW0.out.trans (hb1.mono HW0.out.size)
          have a0 : w1.cell? ⟨w.heap.size + 1, 0, none⟩ = some (.int .u64 n) := (hb1.cell (p := ⟨w.heap.size + 1, 0, none⟩) (by simp)).trans (by go_simp)
          have a1 : w1.cell? ⟨w.heap.size + 1, 1, none⟩ = some (.int .u64 m) := (hb1.cell (p := ⟨w.heap.size + 1, 1, none⟩) (by simp)).trans (by go_simp)
          have a2 : w1.cell? ⟨w.heap.size + 1, 2, none⟩ = some (.slice sA ss.length sc) := (hb1.cell (p := ⟨w.heap.size + 1, 2, none⟩) (by simp)).trans (by go_simp)
          have a3 : w1.cell? ⟨w.heap.size + 1, 3, none⟩ = some (.slice cA cs.length cc) := (hb1.cell (p := ⟨w.heap.size + 1, 3, none⟩) (by simp)).trans (by go_simp)
          have a4 : w1.cell? ⟨w.heap.size + 1, 4, none⟩ = some (.slice vA vs.length vc) := (hb1.cell (p := ⟨w.heap.size + 1, 4, none⟩) (by simp)).trans (by go_simp)
          have HL1 : Hid (Lies w1 sA ss) := HSL.out.below hbw1
          clear hb1 HW0
          cases t with
          | false =>
            go_wp2_with fail
            go_ret
            exact ⟨ret_bool HF.out.symm, hbw1⟩
          | true =>
            go_wp2_with fail
            refine (refShort_at sA sc ss u _ HL1.out HSB.out HST.out H_u.out).mono ?_
            rintro e w2 ⟨rfl, rfl⟩
            cases u with
            | false =>
              go_wp2_with fail
              go_ret
              exact ⟨ret_bool HF.out.symm, hbw1⟩
            | true =>
              cases p with
              | false =>
                have cx := of_decide_eq_false H_p.out
                rw [List.length_map] at cx
                have dx : ((ss.length : Int) == (vs.length : Int)) = false := beq_eq_false_iff_ne.2 (by omega)
                clear cx
                go_wp2_with fail
                go_ret
                exact ⟨ret_bool HF.out.symm, hbw1⟩
              | true =>
                have cx := of_decide_eq_true H_p.out
                rw [List.length_map] at cx
                have dx : ((ss.length : Int) == (vs.length : Int)) = true := beq_iff_eq.2 (by omega)
                clear cx
                go_wp2_with fail
                go_ret
                exact ⟨ret_bool HF.out.symm, hbw1⟩
        · skip
          by_cases k5 : k = 5
          · subst k5
            obtain ⟨t, ht⟩ : ∃ z, hasN n m ss.length (cs.map Ck.l).length (vs.map Vl.er).length false false false false true = z := ⟨_, rfl⟩
            obtain ⟨p, hp⟩ : ∃ z, decide ((vs.map Vl.er).length = 2) = z := ⟨_, rfl⟩
            have HF : Hid (fitsV 5 (.mk n m ss (cs.map Ck.l) (vs.map Vl.er)) = (t && p)) := by
              show fitsV _ _ = _
              rw [fits_5, ht, hp]
            have H_t : Hid (hasN n m ss.length cs.length vs.length false false false false true = t) := by show _ = _; rw [← ht, List.length_map, List.length_map]
            clear ht
            have H_p := Lib.hid hp
            clear hp
            go_enter Tryz.func50, Tryz.ntmps50
            go_wp2_with fail
            refine (refHas_at n m sA sc ss.length cA cc cs.length vA vc vs.length false false false false true t _ H_t.out).mono ?_
            rintro e w1 ⟨rfl, hb1⟩
            have hbw1 : Below w.heap.size w w1 := HW0.out.trans (hb1.mono HW0.out.size)
            have a0 : w1.cell? ⟨w.heap.size + 1, 0, none⟩ = some (.int .u64 n) := (hb1.cell (p := ⟨w.heap.size + 1, 0, none⟩) (by simp)).trans (by go_simp)
            have a1 : w1.cell? ⟨w.heap.size + 1, 1, none⟩ = some (.int .u64 m) := (hb1.cell (p := ⟨w.heap.size + 1, 1, none⟩) (by simp)).trans (by go_simp)
            have a2 : w1.cell? ⟨w.heap.size + 1, 2, none⟩ = some (.slice sA ss.length sc) := (hb1.cell (p := ⟨w.heap.size + 1, 2, none⟩) (by simp)).trans (by go_simp)
            have a3 : w1.cell? ⟨w.heap.size + 1, 3, none⟩ = some (.slice cA cs.length cc) := (hb1.cell (p := ⟨w.heap.size + 1, 3, none⟩) (by simp)).trans (by go_simp)
            have a4 : w1.cell? ⟨w.heap.size + 1, 4, none⟩ = some (.slice vA vs.length vc) := (hb1.cell (p := ⟨w.heap.size + 1, 4, none⟩) (by simp)).trans (by go_simp)
            have HL1 : Hid (Lies w1 sA ss) := HSL.out.below hbw1
            clear hb1 HW0
            cases t with
            | false =>
              go_wp2_with fail
              go_ret
              exact ⟨ret_bool HF.out.symm, hbw1⟩
            | true =>
              cases p with
              | false =>
                have cx := of_decide_eq_false H_p.out
                rw [List.length_map] at cx
                have dx : ((vs.length : Int) == 2) = false := beq_eq_false_iff_ne.2 (by omega)
                clear cx
                go_wp2_with fail
                go_ret
                exact ⟨ret_bool HF.out.symm, hbw1⟩
              | true =>
                have cx := of_decide_eq_true H_p.out
                rw [List.length_map] at cx
                have dx : ((vs.length : Int) == 2) = true := beq_iff_eq.2 (by omega)
                clear cx
                go_wp2_with fail
                go_ret
                exact ⟨ret_bool HF.out.symm, hbw1⟩
          · skip
            by_cases k6 : k = 6
            · subst k6
              by_cases c0 : ss.length = 0
              · have e0 : ss = [] := List.eq_nil_of_length_eq_zero c0
                subst e0
                clear c0
                obtain ⟨t, ht⟩ : ∃ z, hasN n m ([] : List Str).length (cs.map Ck.l).length (vs.map Vl.er).length false false false false false = z := ⟨_, rfl⟩
                have HF : Hid (fitsV 6 (.mk n m [] (cs.map Ck.l) (vs.map Vl.er)) = t) := by
                  show fitsV _ _ = _
                  rw [fits_6, if_pos List.length_nil, ht]
                have H_t : Hid (hasN n m 0 cs.length vs.length false false false false false = t) := by show _ = _; rw [← ht, List.length_map, List.length_map]; rfl
                clear ht
                go_enter Tryz.func50, Tryz.ntmps50
                go_wp2_with fail
                refine (refHas_at n m sA sc 0 cA cc cs.length vA vc vs.length false false false false false t _ H_t.out).mono ?_
                rintro e w1 ⟨rfl, hb1⟩
                have hbw1 : Below w.heap.size w w1 := HW0.out.trans (hb1.mono HW0.out.size)
                have a0 : w1.cell? ⟨w.heap.size + 1, 0, none⟩ = some (.int .u64 n) := (hb1.cell (p := ⟨w.heap.size + 1, 0, none⟩) (by simp)).trans (by go_simp)
                have a1 : w1.cell? ⟨w.heap.size + 1, 1, none⟩ = some (.int .u64 m) := (hb1.cell (p := ⟨w.heap.size + 1, 1, none⟩) (by simp)).trans (by go_simp)
                have a2 : w1.cell? ⟨w.heap.size + 1, 2, none⟩ = some (.slice sA 0 sc) := (hb1.cell (p := ⟨w.heap.size + 1, 2, none⟩) (by simp)).trans (by go_simp)
                have a3 : w1.cell? ⟨w.heap.size + 1, 3, none⟩ = some (.slice cA cs.length cc) := (hb1.cell (p := ⟨w.heap.size + 1, 3, none⟩) (by simp)).trans (by go_simp)
                have a4 : w1.cell? ⟨w.heap.size + 1, 4, none⟩ = some (.slice vA vs.length vc) := (hb1.cell (p := ⟨w.heap.size + 1, 4, none⟩) (by simp)).trans (by go_simp)
                have HL1 : Hid (Lies w1 sA []) := HSL.out.below hbw1
                clear hb1 HW0
                cases t with
                | false =>
                  go_wp2_with fail
                  go_ret
                  exact ⟨ret_bool HF.out.symm, hbw1⟩
                | true =>
                  go_wp2_with fail
                  go_ret
                  exact ⟨ret_bool HF.out.symm, hbw1⟩
              · have d0 : ((ss.length : Int) == 0) = false := beq_eq_false_iff_ne.2 (by omega)
                obtain ⟨t, ht⟩ : ∃ z, hasN n m ss.length (cs.map Ck.l).length (vs.map Vl.er).length true true true false false = z := ⟨_, rfl⟩
                obtain ⟨p1, hp1⟩ : ∃ z, decide (ss.length = 1) = z := ⟨_, rfl⟩
                obtain ⟨u, hu⟩ : ∃ z, shortV ss = z := ⟨_, rfl⟩
                obtain ⟨q1, hq1⟩ : ∃ z, decide (n ≠ 0) = z := ⟨_, rfl⟩
                obtain ⟨q2, hq2⟩ : ∃ z, decide (m ≠ 0) = z := ⟨_, rfl⟩
                obtain ⟨q3, hq3⟩ : ∃ z, decide (ss ≠ [[]]) = z := ⟨_, rfl⟩
                have HF : Hid (fitsV 6 (.mk n m ss (cs.map Ck.l) (vs.map Vl.er)) = (t && (p1 && (u && (q1 || (q2 || q3)))))) := by
                  show fitsV _ _ = _
                  rw [fits_6, if_neg c0, ht, hp1, hu, hq1, hq2, hq3]
                have H_t : Hid (hasN n m ss.length cs.length vs.length true true true false false = t) := by show _ = _; rw [← ht, List.length_map, List.length_map]
                have H_p1 := Lib.hid hp1
                have H_u := Lib.hid hu
                have H_q1 := Lib.hid hq1
                have H_q2 := Lib.hid hq2
                have H_q3 := Lib.hid hq3
                clear c0 ht hp1 hu hq1 hq2 hq3
                go_enter Tryz.func50, Tryz.ntmps50
                go_wp2_with fail
                refine (refHas_at n m sA sc ss.length cA cc cs.length vA vc vs.length true true true false false t _ H_t.out).mono ?_
                rintro e w1 ⟨rfl, hb1⟩
                have hbw1 : Below w.heap.size w w1 := HW0.out.trans (hb1.mono HW0.out.size)
                have a0 : w1.cell? ⟨w.heap.size + 1, 0, none⟩ = some (.int .u64 n) := (hb1.cell (p := ⟨w.heap.size + 1, 0, none⟩) (by simp)).trans (by go_simp)
                have a1 : w1.cell? ⟨w.heap.size + 1, 1, none⟩ = some (.int .u64 m) := (hb1.cell (p := ⟨w.heap.size + 1, 1, none⟩) (by simp)).trans (by go_simp)
                have a2 : w1.cell? ⟨w.heap.size + 1, 2, none⟩ = some (.slice sA ss.length sc) := (hb1.cell (p := ⟨w.heap.size + 1, 2, none⟩) (by simp)).trans (by go_simp)
                have a3 : w1.cell? ⟨w.heap.size + 1, 3, none⟩ = some (.slice cA cs.length cc) := (hb1.cell (p := ⟨w.heap.size + 1, 3, none⟩) (by simp)).trans (by go_simp)
                have a4 : w1.cell? ⟨w.heap.size + 1, 4, none⟩ = some (.slice vA vs.length vc) := (hb1.cell (p := ⟨w.heap.size + 1, 4, none⟩) (by simp)).trans (by go_simp)
                have HL1 : Hid (Lies w1 sA ss) := HSL.out.below hbw1
                clear hb1 HW0
                cases t with
                | false =>
                  go_wp2_with fail
                  go_ret
                  exact ⟨ret_bool HF.out.symm, hbw1⟩
                | true =>
                  cases p1 with
                  | false =>
                    have cx := of_decide_eq_false H_p1.out
                    have dx : ((ss.length : Int) == 1) = false := beq_eq_false_iff_ne.2 (by omega)
                    clear cx
                    go_wp2_with fail
                    go_ret
                    exact ⟨ret_bool HF.out.symm, hbw1⟩
                  | true =>
                    have cx := of_decide_eq_true H_p1.out
                    obtain ⟨s, rfl⟩ : ∃ s, ss = [s] := List.length_eq_one_iff.1 cx
                    clear cx
                    clear d0
                    obtain ⟨b, off, rfl, hb, hc⟩ := HL1.out.get (k := 0) (by simp)
                    have hc0 := hc 0 s rfl
                    simp only [Nat.add_zero] at hc0
                    clear hc
                    go_wp2_with fail
                    refine (refShort_at _ sc [s] u _ HL1.out HSB.out HST.out H_u.out).mono ?_
                    rintro e w2 ⟨rfl, rfl⟩
                    cases u with
                    | false =>
                      go_wp2_with fail
                      go_ret
                      exact ⟨ret_bool HF.out.symm, hbw1⟩
                    | true =>
                      cases q1 with
                      | true =>
                        have d1 : (n == 0) = false := by have := of_decide_eq_true H_q1.out; simp [this]
                        have d1' : (n != 0) = true := by have := of_decide_eq_true H_q1.out; simp [this]
                        go_wp2_with fail
                        go_ret
                        exact ⟨ret_bool HF.out.symm, hbw1⟩
                      | false =>
                        have e1 : n = 0 := by have := of_decide_eq_false H_q1.out; omega
                        subst e1
                        cases q2 with
                        | true =>
                          have d2 : (m == 0) = false := by have := of_decide_eq_true H_q2.out; simp [this]
                          have d2' : (m != 0) = true := by have := of_decide_eq_true H_q2.out; simp [this]
                          go_wp2_with fail
                          go_ret
                          exact ⟨ret_bool HF.out.symm, hbw1⟩
                        | false =>
                          have e2 : m = 0 := by have := of_decide_eq_false H_q2.out; omega
                          subst e2
                          cases q3 with
                          | true =>
                            have d3 : List.isEmpty s = false := by
                              cases s with
                              | nil => exact absurd rfl (of_decide_eq_true H_q3.out)
                              | cons => rfl
                            go_wp2_with fail
                            go_ret
                            exact ⟨ret_bool HF.out.symm, hbw1⟩
                          | false =>
                            have e3 : s = [] := by have := of_decide_eq_false H_q3.out; simpa using this
                            subst e3
                            go_wp2_with fail
                            go_ret
                            exact ⟨ret_bool HF.out.symm, hbw1⟩
            · skip
              by_cases k7 : k = 7
              · subst k7
                obtain ⟨t, ht⟩ : ∃ z, hasN n m ss.length (cs.map Ck.l).length (vs.map Vl.er).length false false false true false = z := ⟨_, rfl⟩
                obtain ⟨p, hp⟩ : ∃ z, decide ((cs.map Ck.l).length ≤ 1) = z := ⟨_, rfl⟩
                have HF : Hid (fitsV 7 (.mk n m ss (cs.map Ck.l) (vs.map Vl.er)) = (t && p)) := by
                  show fitsV _ _ = _
                  rw [fits_7, ht, hp]
                have H_t : Hid (hasN n m ss.length cs.length vs.length false false false true false = t) := by show _ = _; rw [← ht, List.length_map, List.length_map]
                clear ht
                have H_p := Lib.hid hp
                clear hp
                go_enter Tryz.func50, Tryz.ntmps50
                go_wp2_with fail
                refine (refHas_at n m sA sc ss.length cA cc cs.length vA vc vs.length false false false true false t _ H_t.out).mono ?_
                rintro e w1 ⟨rfl, hb1⟩
                have hbw1 : Below w.heap.size w w1 := HW0.out.trans (hb1.mono HW0.out.size)
                have a0 : w1.cell? ⟨w.heap.size + 1, 0, none⟩ = some (.int .u64 n) := (hb1.cell (p := ⟨w.heap.size + 1, 0, none⟩) (by simp)).trans (by go_simp)
                have a1 : w1.cell? ⟨w.heap.size + 1, 1, none⟩ = some (.int .u64 m) := (hb1.cell (p := ⟨w.heap.size + 1, 1, none⟩) (by simp)).trans (by go_simp)
                have a2 : w1.cell? ⟨w.heap.size + 1, 2, none⟩ = some (.slice sA ss.length sc) := (hb1.cell (p := ⟨w.heap.size + 1, 2, none⟩) (by simp)).trans (by go_simp)
                have a3 : w1.cell? ⟨w.heap.size + 1, 3, none⟩ = some (.slice cA cs.length cc) := (hb1.cell (p := ⟨w.heap.size + 1, 3, none⟩) (by simp)).trans (by go_simp)
                have a4 : w1.cell? ⟨w.heap.size + 1, 4, none⟩ = some (.slice vA vs.length vc) := (hb1.cell (p := ⟨w.heap.size + 1, 4, none⟩) (by simp)).trans (by go_simp)
                have HL1 : Hid (Lies w1 sA ss) := HSL.out.below hbw1
                clear hb1 HW0
                cases t with
                | false =>
                  go_wp2_with fail
                  go_ret
                  exact ⟨ret_bool HF.out.symm, hbw1⟩
                | true =>
                  cases p with
                  | false =>
                    have cx := of_decide_eq_false H_p.out
                    rw [List.length_map] at cx
                    have dx : decide ((cs.length : Int) ≤ 1) = false := decide_eq_false (by omega)
                    clear cx
                    go_wp2_with fail
                    go_ret
                    exact ⟨ret_bool HF.out.symm, hbw1⟩
                  | true =>
                    have cx := of_decide_eq_true H_p.out
                    rw [List.length_map] at cx
                    have dx : (cs.length : Int) ≤ 1 := by omega
                    clear cx
                    go_wp2_with fail
                    go_ret
                    exact ⟨ret_bool HF.out.symm, hbw1⟩
              · skip
                obtain ⟨t, ht⟩ : ∃ z, hasN n m ss.length (cs.map Ck.l).length (vs.map Vl.er).length false false false true true = z := ⟨_, rfl⟩
                obtain ⟨p, hp⟩ : ∃ z, decide ((cs.map Ck.l).length = (vs.map Vl.er).length) = z := ⟨_, rfl⟩
                have HF : Hid (fitsV k (.mk n m ss (cs.map Ck.l) (vs.map Vl.er)) = (t && p)) := by
                  show fitsV _ _ = _
                  rw [fits_ne k k1 k2 k3 k4 k5 k6 k7, ht, hp]
                have H_t : Hid (hasN n m ss.length cs.length vs.length false false false true true = t) := by show _ = _; rw [← ht, List.length_map, List.length_map]
                have H_p := Lib.hid hp
                clear ht hp
                go_enter Tryz.func50, Tryz.ntmps50
                go_wp2_with fail
                refine (refHas_at n m sA sc ss.length cA cc cs.length vA vc vs.length false false false true true t _ H_t.out).mono ?_
                rintro e w1 ⟨rfl, hb1⟩
                have hbw1 : Below w.heap.size w w1 := HW0.out.trans (hb1.mono HW0.out.size)
                have a0 : w1.cell? ⟨w.heap.size + 1, 0, none⟩ = some (.int .u64 n) := (hb1.cell (p := ⟨w.heap.size + 1, 0, none⟩) (by simp)).trans (by go_simp)
                have a1 : w1.cell? ⟨w.heap.size + 1, 1, none⟩ = some (.int .u64 m) := (hb1.cell (p := ⟨w.heap.size + 1, 1, none⟩) (by simp)).trans (by go_simp)
                have a2 : w1.cell? ⟨w.heap.size + 1, 2, none⟩ = some (.slice sA ss.length sc) := (hb1.cell (p := ⟨w.heap.size + 1, 2, none⟩) (by simp)).trans (by go_simp)
                have a3 : w1.cell? ⟨w.heap.size + 1, 3, none⟩ = some (.slice cA cs.length cc) := (hb1.cell (p := ⟨w.heap.size + 1, 3, none⟩) (by simp)).trans (by go_simp)
                have a4 : w1.cell? ⟨w.heap.size + 1, 4, none⟩ = some (.slice vA vs.length vc) := (hb1.cell (p := ⟨w.heap.size + 1, 4, none⟩) (by simp)).trans (by go_simp)
                have HL1 : Hid (Lies w1 sA ss) := HSL.out.below hbw1
                clear hb1 HW0
                cases t with
                | false =>
                  go_wp2_with fail
                  go_ret
                  exact ⟨ret_bool HF.out.symm, hbw1⟩
                | true =>
                  cases p with
                  | false =>
                    have cx := of_decide_eq_false H_p.out
                    rw [List.length_map, List.length_map] at cx
                    have dx : ((cs.length : Int) == (vs.length : Int)) = false := beq_eq_false_iff_ne.2 (by omega)
                    clear cx
                    go_wp2_with fail
                    go_ret
                    exact ⟨ret_bool HF.out.symm, hbw1⟩
                  | true =>
                    have cx := of_decide_eq_true H_p.out
                    rw [List.length_map, List.length_map] at cx
                    have dx : ((cs.length : Int) == (vs.length : Int)) = true := beq_iff_eq.2 (by omega)
                    clear cx
                    go_wp2_with fail
                    go_ret
                    exact ⟨ret_bool HF.out.symm, hbw1⟩
end Go.Proofs.YtleejffjnknohaaGreat.V4

namespace Go.Proofs.YtleejffjnknohaaGreat.S2
open Go.RowKit

set_option maxHeartbeats 400000 in
theorem arity_any (k : Int) (w : World) : Calls Tryz.prog 79 #[.int .i64 k] w fun e w' => e = .returned (.int .i64 (arI k)) ∧ w = w' := by
  by_cases h0 : k = 1 ∨ k = 2 ∨ k = 3 ∨ k = 6 ∨ k = 7
  · rcases h0 with rfl | rfl | rfl | rfl | rfl
    all_goals
      go_enter Tryz.func79, Tryz.ntmps79
      go_wp2
      go_ret
      exact ⟨ret_int (by decide), rfl⟩
  · by_cases h1 : k = 4 ∨ k = 8
    · rcases h1 with rfl | rfl
      all_goals
        go_enter Tryz.func79, Tryz.ntmps79
        go_wp2
        go_ret
        exact ⟨ret_int (by decide), rfl⟩
    · by_cases h2 : k = 5
      · subst h2
        go_enter Tryz.func79, Tryz.ntmps79
        go_wp2
        go_ret
        exact ⟨ret_int (by decide), rfl⟩
      · have HA : Hid (arI k = -1) := by show arI k = -1; unfold arI; rw [if_neg h0, if_neg h1, if_neg h2]
        have e1 : k ≠ 1 := fun h => h0 (by simp [h])
        have e2 : k ≠ 2 := fun h => h0 (by simp [h])
        have e3 : k ≠ 3 := fun h => h0 (by simp [h])
        have e6 : k ≠ 6 := fun h => h0 (by simp [h])
        have e7 : k ≠ 7 := fun h => h0 (by simp [h])
        have e4 : k ≠ 4 := fun h => h1 (by simp [h])
        have e8 : k ≠ 8 := fun h => h1 (by simp [h])
        clear h0 h1
        go_enter Tryz.func79, Tryz.ntmps79
        go_wp2
        go_ret
        exact ⟨ret_int HA.out.symm, rfl⟩

end Go.Proofs.YtleejffjnknohaaGreat.S2

namespace Go.Proofs.YtleejffjnknohaaGreat.S2
open Go.RowKit

end Go.Proofs.YtleejffjnknohaaGreat.S2
