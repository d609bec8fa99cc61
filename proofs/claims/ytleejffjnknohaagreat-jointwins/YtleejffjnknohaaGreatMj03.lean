/- What the reference's functions on rows do: At, SameTexts, Rises, Within. No condition but that the slices read as strings. The order of strings, rows that rise: plain mathematics. No condition. What SameTexts and Within of the reference do. No condition but that the slices read as strings. What the reference's Same does. No condition but that the values lie in memory. What the reference's short and has do. No condition but that the texts lie in memory. -/
import Derived.Test.YtleejffjnknohaaGreatRows
import Derived.Test.YtleejffjnknohaaGreatMj01
import Derived.Sort.Walk0
import Derived.Test.YtleejffjnknohaaGreatMj02
namespace Go.Proofs.YtleejffjnknohaaGreat.R1
open Go.RowKit

/-- The place of s in xs, or -1. -/
def atI (xs : List Str) (s : Str) : Int := if s ∈ xs then (xs.idxOf s : Nat) else -1

theorem atI_hit {xs : List Str} {s : Str} {k : Nat} (h0 : s ∉ xs.take k) (h : xs[k]? = some s) : (k : Int) = atI xs s := by
  have hk : k < xs.length := (List.getElem?_eq_some_iff.1 h).1
  have he : xs[k] = s := (List.getElem?_eq_some_iff.1 h).2
  have hm : s ∈ xs := he ▸ List.getElem_mem hk
  unfold atI
  rw [if_pos hm]
  have : xs.idxOf s = k := by
    conv => lhs; rw [← List.take_append_drop k xs]
    rw [List.idxOf_append, if_neg h0, List.drop_eq_getElem_cons hk, he]
    simp [List.length_take]
    omega
  rw [this]

theorem atI_miss {xs : List Str} {s : Str} {k : Nat} (h0 : s ∉ xs.take k) (hk : xs.length ≤ k) : -1 = atI xs s := by
  unfold atI
  rw [List.take_of_length_le hk] at h0
  rw [if_neg h0]

theorem notin_succ {xs : List Str} {s x : Str} {k : Nat} (h0 : s ∉ xs.take k) (h : xs[k]? = some x) (hne : x ≠ s) : s ∉ xs.take (k + 1) := by
  obtain ⟨hk, he⟩ := List.getElem?_eq_some_iff.1 h
  rw [List.take_succ_eq_append_getElem hk, List.mem_append, not_or]
  exact ⟨h0, by simp [he]; exact fun e => hne e.symm⟩

end Go.Proofs.YtleejffjnknohaaGreat.R1

namespace Go.Proofs.YtleejffjnknohaaGreat.R1

theorem str_irrefl (a : Str) : ¬ a < a := List.lt_irrefl a
theorem str_trans {a b c : Str} (h : a < b) (k : b < c) : a < c := List.lt_trans h k
theorem str_asymm {a b : Str} (h : a < b) : ¬ b < a := fun k => str_irrefl a (str_trans h k)
theorem ne_of_slt {a b : Str} (h : a < b) : a ≠ b := by rintro rfl; exact str_irrefl _ h
theorem str_tri (a b : Str) : a < b ∨ a = b ∨ b < a := by
  by_cases h1 : a < b
  · exact .inl h1
  · by_cases h2 : b < a
    · exact .inr (.inr h2)
    · exact .inr (.inl (List.le_antisymm (List.not_lt.1 h2) (List.not_lt.1 h1)))

theorem bl_true {a b : Str} (h : a < b) : Op.bytesLess a b = true := by rw [bytesLess_eq]; simpa using h
theorem bl_false {a b : Str} (h : ¬ a < b) : Op.bytesLess a b = false := by rw [bytesLess_eq]; simpa using h

/-- A row that rises. -/
abbrev Srt (xs : List Str) : Prop := xs.Pairwise (· < ·)

theorem srt_snoc {xs : List Str} {j : Nat} {x y : Str} (h : Srt (xs.take (j + 1))) (hx : xs[j]? = some x) (hy : xs[j + 1]? = some y) (hlt : x < y) : Srt (xs.take (j + 1 + 1)) := by
  obtain ⟨hk, he⟩ := List.getElem?_eq_some_iff.1 hy
  obtain ⟨hk0, he0⟩ := List.getElem?_eq_some_iff.1 hx
  rw [List.take_succ_eq_append_getElem hk, he]
  refine List.pairwise_append.2 ⟨h, List.pairwise_singleton _ _, ?_⟩
  intro a ha b hb
  rw [List.mem_singleton] at hb
  subst hb
  rw [List.take_succ_eq_append_getElem hk0, he0] at h ha
  rcases List.mem_append.1 ha with h1 | h1
  · exact str_trans ((List.pairwise_append.1 h).2.2 a h1 x (List.mem_singleton.2 rfl)) hlt
  · rw [List.mem_singleton] at h1
    subst h1
    exact hlt

theorem srt_no {xs : List Str} {j : Nat} {x y : Str} (hx : xs[j]? = some x) (hy : xs[j + 1]? = some y) (hlt : ¬ x < y) : ¬ Srt xs := by
  intro h
  obtain ⟨hk, he⟩ := List.getElem?_eq_some_iff.1 hy
  obtain ⟨hk0, he0⟩ := List.getElem?_eq_some_iff.1 hx
  have := List.pairwise_iff_getElem.1 h j (j + 1) hk0 hk (by omega)
  rw [he, he0] at this
  exact hlt this

theorem srt_take_one (xs : List Str) : Srt (xs.take 1) := by
  cases xs <;> simp [Srt]

theorem srt_all {xs : List Str} {k : Nat} (h : Srt (xs.take k)) (hk : xs.length ≤ k) : Srt xs := by rwa [List.take_of_length_le hk] at h
end Go.Proofs.YtleejffjnknohaaGreat.R1

namespace Go.Proofs.YtleejffjnknohaaGreat.R1
open Go.RowKit

theorem take_eq_snoc {xs ys : List Str} {k : Nat} {x : Str} (h : xs.take k = ys.take k) (hx : xs[k]? = some x) (hy : ys[k]? = some x) : xs.take (k + 1) = ys.take (k + 1) := by
  obtain ⟨hk, he⟩ := List.getElem?_eq_some_iff.1 hx
  obtain ⟨hk', he'⟩ := List.getElem?_eq_some_iff.1 hy
  rw [List.take_succ_eq_append_getElem hk, List.take_succ_eq_append_getElem hk', h, he, he']

theorem ne_of_at {xs ys : List Str} {k : Nat} {x y : Str} (hx : xs[k]? = some x) (hy : ys[k]? = some y) (hne : x ≠ y) : xs ≠ ys := by
  rintro rfl
  rw [hx] at hy
  exact hne (Option.some.inj hy)

set_option maxHeartbeats 400000 in
theorem same_any (A B : Option Addr) (c d : Nat) (xs ys : List Str) (w : World) (hl : Lies w A xs) (hm : Lies w B ys) (hn : xs.length ≤ maxLen) :
    Calls Tryz.prog 18 #[.slice A xs.length c, .slice B ys.length d] w fun e w' => e = .returned (.bool (decide (xs = ys))) ∧ ∃ n, w' = w.drewN n := by
  unfold maxLen at hn
  by_cases hlen : xs.length = ys.length
  · have hbn : ((xs.length : Int) != (ys.length : Int)) = false := by simp [hlen]
    have HL := Lib.hid hlen
    have hle : xs.length ≤ ys.length := by omega
    clear hlen
    go_enter Tryz.func18, Tryz.ntmps18
    go_wp2
    go_loopw [5] (fun i wr => ∃ k n : Nat, k ≤ xs.length ∧ i = .int .i64 k ∧ wr = w.drewN n ∧ Hid (xs.take k = ys.take k)) (fun i _ => xs.length - (intOf i).toNat)
    case atStart => exact ⟨0, 0, Nat.zero_le _, rfl, rfl, by simp [Hid]⟩
    case round =>
      obtain ⟨k, n, hk, rfl, rfl, h0⟩ := hrel
      by_cases hlt : k < xs.length
      · obtain ⟨b, off, rfl, hb, hc⟩ := hl.get hlt
        obtain ⟨b', off', rfl, hb', hc'⟩ := hm.get (show k < ys.length by omega)
        obtain ⟨x, hx⟩ : ∃ x, xs[k]? = some x := ⟨_, List.getElem?_eq_getElem hlt⟩
        obtain ⟨y, hy⟩ : ∃ x, ys[k]? = some x := ⟨_, List.getElem?_eq_getElem (by omega)⟩
        have hcx := hc k x hx
        have hcy := hc' k y hy
        have hlt' : k < ys.length := by omega
        have HX := Lib.hid hx
        have HY := Lib.hid hy
        clear hx hy hc hl hc' hm
        by_cases hxy : x = y
        · subst hxy
          go_wp2
          go_quiet (fail)
          go_wp2
          go_roundw
          case rel => exact ⟨k + 1, _, by omega, by go_num, rfl, take_eq_snoc h0.out HX.out HY.out⟩
          case measure => simp [intOf]; omega
        · have hb2 := beq_str hxy
          have HN := Lib.hid hxy
          clear hxy
          go_wp2
          go_quiet (fail)
          go_wp2
          go_ret
          exact ⟨ret_bool (decide_eq_false (ne_of_at HX.out HY.out HN.out)).symm, drew2 _ _ _⟩
      · go_wp2
        go_ret
        refine ⟨ret_bool (decide_eq_true ?_).symm, _, rfl⟩
        have := h0.out
        rwa [List.take_of_length_le (by omega), List.take_of_length_le (by have := HL.out; omega)] at this
  · have hbn : ((xs.length : Int) != (ys.length : Int)) = true := by simp; omega
    have HL := Lib.hid hlen
    clear hlen
    go_enter Tryz.func18, Tryz.ntmps18
    go_wp2
    go_ret
    exact ⟨ret_bool (decide_eq_false (fun e => HL.out (by rw [e]))).symm, 0, rfl⟩

/-- All of xs are in ys. -/
abbrev Wi (xs ys : List Str) : Prop := ∀ x ∈ xs, x ∈ ys

theorem wi_snoc {xs ys : List Str} {k : Nat} {x : Str} (h : Wi (xs.take k) ys) (hx : xs[k]? = some x) (hm : x ∈ ys) : Wi (xs.take (k + 1)) ys := by
  obtain ⟨hk, he⟩ := List.getElem?_eq_some_iff.1 hx
  rw [List.take_succ_eq_append_getElem hk, he]
  intro a ha
  rcases List.mem_append.1 ha with h1 | h1
  · exact h a h1
  · rw [List.mem_singleton.1 h1]; exact hm

theorem wi_no {xs ys : List Str} {k : Nat} {x : Str} (hx : xs[k]? = some x) (hm : x ∉ ys) : ¬ Wi xs ys := by
  intro h
  exact hm (h x (List.mem_of_getElem? hx))

end Go.Proofs.YtleejffjnknohaaGreat.R1

namespace Go.Proofs.YtleejffjnknohaaGreat.V4
open Go.RowKit
open C3 (Tk Asc isC ofC cmpC Nok In belAl allocB drewB RetT)

theorem sameTexts_V (A B : Option Addr) (c d : Nat) (xs ys : List Str) (v : Bool) (w : World) (hl : Lies w A xs) (hm : Lies w B ys) (hn : xs.length ≤ maxLen) (hv : decide (xs = ys) = v) :
    Calls Tryz.prog 18 #[.slice A xs.length c, .slice B ys.length d] w (RetV w (.bool v)) := by
  subst hv
  exact (R1.same_any A B c d xs ys w hl hm hn).mono fun _ _ ⟨h1, n, h2⟩ => ⟨h1, h2 ▸ below_drewN (Below.refl _ _) n⟩

theorem sameClocks_V (A A' : Option Addr) (c c' : Nat) (l l' : List Tk) (v : Bool) (w : World) (h : In w A c l) (h' : In w A' c' l') (hv : decide (l = l') = v) :
    Calls Tryz.prog 27 #[.slice A l.length c, .slice A' l'.length c'] w (RetV w (.bool v)) := hv ▸ C3.refSame_any A A' c c' l l' w h h'

theorem map_take_succ {α β : Type} {f : α → β} {l l' : List α} {i : Nat} {x y : α} (h0 : (l.take i).map f = (l'.take i).map f) (hx : l[i]? = some x) (hy : l'[i]? = some y) (he : f x = f y) : (l.take (i + 1)).map f = (l'.take (i + 1)).map f := by
  obtain ⟨hi, hx'⟩ := List.getElem?_eq_some_iff.1 hx
  obtain ⟨hj, hy'⟩ := List.getElem?_eq_some_iff.1 hy
  rw [List.take_succ_eq_append_getElem hi, List.take_succ_eq_append_getElem hj, List.map_append, List.map_append, h0, hx', hy', List.map_singleton, List.map_singleton, he]
theorem map_take_all {α β : Type} {f : α → β} {l l' : List α} {i : Nat} (h0 : (l.take i).map f = (l'.take i).map f) (hi : l.length ≤ i) (hj : l'.length ≤ i) : l.map f = l'.map f := by
  rwa [List.take_of_length_le hi, List.take_of_length_le hj] at h0
theorem map_ne_at {α β : Type} {f : α → β} {l l' : List α} {i : Nat} {x y : α} (hx : l[i]? = some x) (hy : l'[i]? = some y) (he : f x ≠ f y) : l.map f ≠ l'.map f := by
  intro e
  have := congrArg (fun z => z[i]?) e
  simp only [List.getElem?_map, hx, hy, Option.map_some] at this
  exact he (Option.some.inj this)

theorem r_false {p : Prop} [Decidable p] {r : Bool} (hr : decide p = r) (h : ¬ p) : false = r := by rw [← hr]; exact (decide_eq_false h).symm
theorem r_true {p : Prop} [Decidable p] {r : Bool} (hr : decide p = r) (h : p) : true = r := by rw [← hr]; exact (decide_eq_true h).symm

set_option maxRecDepth 100000 in
set_option maxHeartbeats 1000000 in
theorem refSameV_any : ∀ (x y : Vl) (w : World), x.In w → y.In w → Calls Tryz.prog 14 #[x.val, y.val] w (RetV w (.bool (decide (x.er = y.er)))) := by
  intro x
  induction x using Vl.ind with
  | h n m sA sc ss cA cc cs vA vc vs ih =>
    rintro ⟨n', m', sA', sc', ss', cA', cc', cs', vA', vc', vs'⟩ w hin hin'
    have hW0 : Below w.heap.size w ((w.alloc (.cells #[.int .u64 n, .int .u64 m, .slice sA ss.length sc, .slice cA cs.length cc, .slice vA vs.length vc] 32)).alloc (.cells #[.int .u64 n', .int .u64 m', .slice sA' ss'.length sc', .slice cA' cs'.length cc', .slice vA' vs'.length vc'] 32)) := belAl (allocB _ _)
    have P := hin.out
    have P' := hin'.out
    have Q := (hin.later hW0).out
    have Q' := (hin'.later hW0).out
    have hcm : cs.length ≤ 9223372036854775807 := by have := P.cb; unfold maxLen at this; omega
    have hvm : vs.length ≤ 9223372036854775807 := by have := P.vb; unfold maxLen at this; omega
    have HP := Lib.hid P
    have HP' := Lib.hid P'
    have HS := Lib.hid Q.sl
    have HS' := Lib.hid Q'.sl
    have HSB : Hid (ss.length ≤ maxLen) := Nat.le_trans P.sb.1 P.sb.2.1
    have HW0 := Lib.hid hW0
    have IH := Lib.hid ih
    clear hin hin' P P' Q Q' ih hW0
    simp only [val_mk]
    obtain ⟨r, hr⟩ : ∃ r, decide ((Vl.mk n m sA sc ss cA cc cs vA vc vs).er = (Vl.mk n' m' sA' sc' ss' cA' cc' cs' vA' vc' vs').er) = r := ⟨_, rfl⟩
    rw [hr]
    simp only [er_mk, Va.mk.injEq] at hr
    have HR := Lib.hid hr
    clear hr
    by_cases c1 : n = n'
    · subst c1
      by_cases c2 : m = m'
      · subst c2
        obtain ⟨t, ht⟩ : ∃ t, decide (ss = ss') = t := ⟨_, rfl⟩
        have HT := Lib.hid ht
        clear ht
        go_enter Tryz.func14, Tryz.ntmps14
        go_wp2_with fail
        refine (sameTexts_V sA sA' sc sc' ss ss' t _ HS.out HS'.out HSB.out HT.out).mono ?_
        rintro e w1 ⟨rfl, hb1⟩
        have a3 : w1.cell? ⟨w.heap.size, 3, none⟩ = some (.slice cA cs.length cc) := (hb1.cell (p := ⟨w.heap.size, 3, none⟩) (by simp; omega)).trans (by go_simp)
        have a4 : w1.cell? ⟨w.heap.size, 4, none⟩ = some (.slice vA vs.length vc) := (hb1.cell (p := ⟨w.heap.size, 4, none⟩) (by simp; omega)).trans (by go_simp)
        have b3 : w1.cell? ⟨w.heap.size + 1, 3, none⟩ = some (.slice cA' cs'.length cc') := (hb1.cell (p := ⟨w.heap.size + 1, 3, none⟩) (by simp)).trans (by go_simp)
        have b4 : w1.cell? ⟨w.heap.size + 1, 4, none⟩ = some (.slice vA' vs'.length vc') := (hb1.cell (p := ⟨w.heap.size + 1, 4, none⟩) (by simp)).trans (by go_simp)
        have hsz : w.heap.size + 1 < w1.heap.size := Nat.lt_of_lt_of_le (by simp) hb1.size
        have hbw1 : Below w.heap.size w w1 := HW0.out.trans (hb1.mono HW0.out.size)
        clear hb1 HW0 HS HS'
        cases t with
        | false =>
          go_wp2_with fail
          go_ret
          exact ⟨ret_bool (r_false HR.out fun h => of_decide_eq_false HT.out h.2.2.1), hbw1⟩
        | true =>
          by_cases c3 : cs.length = cs'.length
          · have C3' := Lib.hid c3
            have hle : cs'.length = cs.length := c3.symm
            clear c3
            rw [hle] at b3
            clear hle
            by_cases c4 : vs.length = vs'.length
            · have C4' := Lib.hid c4
              have hle : vs'.length = vs.length := c4.symm
              clear c4
              rw [hle] at b4
              clear hle
              go_wp2_with fail
              go_loopw [5] (fun iv wr => ∃ (k : Nat), k ≤ cs.length ∧ iv = .int .i64 k ∧ Hid ((cs.take k).map Ck.l = (cs'.take k).map Ck.l) ∧ Below w.heap.size w wr ∧ wr.cell? ⟨w.heap.size, 3, none⟩ = some (.slice cA cs.length cc) ∧ wr.cell? ⟨w.heap.size, 4, none⟩ = some (.slice vA vs.length vc) ∧ wr.cell? ⟨w.heap.size + 1, 3, none⟩ = some (.slice cA' cs.length cc') ∧ wr.cell? ⟨w.heap.size + 1, 4, none⟩ = some (.slice vA' vs.length vc') ∧ w.heap.size + 1 < wr.heap.size) (fun iv _ => cs.length - (intOf iv).toNat)
              case atStart => exact ⟨0, Nat.zero_le _, rfl, by simp [Hid], hbw1, a3, a4, b3, b4, hsz⟩
              case round =>
                clear a3 a4 b3 b4 hsz hbw1
                obtain ⟨k, hk, rfl, h0, hbw, a3, a4, b3, b4, hsz⟩ := hrel
                by_cases hlt : k < cs.length
                · have hlt' : k < cs'.length := by have := C3'.out; omega
                  obtain ⟨x, hx⟩ : ∃ x, cs[k]? = some x := ⟨_, List.getElem?_eq_getElem hlt⟩
                  obtain ⟨y, hy⟩ : ∃ y, cs'[k]? = some y := ⟨_, List.getElem?_eq_getElem hlt'⟩
                  obtain ⟨b, off, rfl, hb, hc⟩ := clock_at (HP.out.cl.below hbw) hx
                  obtain ⟨b', off', rfl, hb', hc'⟩ := clock_at (HP'.out.cl.below hbw) hy
                  have HIX := Lib.hid ((HP.out.ck x (List.mem_of_getElem? hx)).later hbw)
                  have HIY := Lib.hid ((HP'.out.ck y (List.mem_of_getElem? hy)).later hbw)
                  have HX := Lib.hid hx
                  have HY := Lib.hid hy
                  clear hx hy
                  obtain ⟨xA, xc, xl⟩ := x
                  obtain ⟨yA, yc, yl⟩ := y
                  simp only [Ck.v] at hc hc'
                  dsimp only at HIX HIY
                  obtain ⟨q, hq⟩ : ∃ q, decide (xl = yl) = q := ⟨_, rfl⟩
                  have HQ := Lib.hid hq
                  clear hq
                  have hlti : (k : Int) < (cs.length : Int) := by omega
                  have HBW := Lib.hid hbw
                  clear hbw
                  go_wp2_with fail
                  go_still_tail 10, (by kernel_rfl)
                  change wpList _ _ _ _ _ wr.drew
                  go_wp2_with fail
                  refine (sameClocks_V xA yA xc yc xl yl q _ (HIX.out.later (drewB wr)) (HIY.out.later (drewB wr)) HQ.out).mono ?_
                  rintro e w2 ⟨rfl, hb2⟩
                  have hb3 : Below wr.heap.size wr w2 := (drewB wr).trans hb2
                  replace a3 := (hb3.cell (p := ⟨w.heap.size, 3, none⟩) (by show w.heap.size < _; omega)).trans a3
                  replace a4 := (hb3.cell (p := ⟨w.heap.size, 4, none⟩) (by show w.heap.size < _; omega)).trans a4
                  replace b3 := (hb3.cell (p := ⟨w.heap.size + 1, 3, none⟩) hsz).trans b3
                  replace b4 := (hb3.cell (p := ⟨w.heap.size + 1, 4, none⟩) hsz).trans b4
                  replace hsz := Nat.lt_of_lt_of_le hsz hb3.size
                  have hbw2 : Below w.heap.size w w2 := HBW.out.trans (hb3.mono HBW.out.size)
                  clear hb2 hb3 hc hc'
                  cases q with
                  | false =>
                    go_wp2_with fail
                    go_ret
                    exact ⟨ret_bool (r_false HR.out fun h => map_ne_at (f := Ck.l) HX.out HY.out (of_decide_eq_false HQ.out) h.2.2.2.1), hbw2⟩
                  | true =>
                    go_wp2_with fail
                    go_roundw
                    case rel => exact ⟨k + 1, by omega, by go_num, map_take_succ h0.out HX.out HY.out (of_decide_eq_true HQ.out), hbw2, a3, a4, b3, b4, hsz⟩
                    case measure => simp [intOf]; omega
                · have HCE : Hid (cs.map Ck.l = cs'.map Ck.l) := map_take_all h0.out (by omega) (by have := C3'.out; omega)
                  clear h0
                  go_wp2_with fail
                  go_loopw [6] (fun iv wr => ∃ (k : Nat), k ≤ vs.length ∧ iv = .int .i64 k ∧ Hid ((vs.take k).map Vl.er = (vs'.take k).map Vl.er) ∧ Below w.heap.size w wr ∧ wr.cell? ⟨w.heap.size, 4, none⟩ = some (.slice vA vs.length vc) ∧ wr.cell? ⟨w.heap.size + 1, 4, none⟩ = some (.slice vA' vs.length vc') ∧ w.heap.size + 1 < wr.heap.size) (fun iv _ => vs.length - (intOf iv).toNat)
                  case atStart => exact ⟨0, Nat.zero_le _, rfl, by simp [Hid], hbw, a4, b4, hsz⟩
                  case round =>
                    clear a3 a4 b3 b4 hsz hbw
                    rename_i wr
                    obtain ⟨k, hk, rfl, h0, hbw, a4, b4, hsz⟩ := hrel
                    by_cases hlt : k < vs.length
                    · have hlt' : k < vs'.length := by have := C4'.out; omega
                      obtain ⟨x, hx⟩ : ∃ x, vs[k]? = some x := ⟨_, List.getElem?_eq_getElem hlt⟩
                      obtain ⟨y, hy⟩ : ∃ y, vs'[k]? = some y := ⟨_, List.getElem?_eq_getElem hlt'⟩
                      obtain ⟨b, off, rfl, hb, hc0, hc1, hc2, hc3, hc4⟩ := value_at (HP.out.vl.below hbw) hx
                      obtain ⟨b', off', rfl, hb', hd0, hd1, hd2, hd3, hd4⟩ := value_at (HP'.out.vl.below hbw) hy
                      have HIX : Hid (x.In _) := (HP.out.vk x (List.mem_of_getElem? hx)).later hbw
                      have HIY : Hid (y.In _) := (HP'.out.vk y (List.mem_of_getElem? hy)).later hbw
                      have HX := Lib.hid hx
                      have HY := Lib.hid hy
                      have HM := Lib.hid (List.mem_of_getElem? hx)
                      clear hx hy
                      obtain ⟨xn, xm, xsA, xsc, xss, xcA, xcc, xcs, xvA, xvc, xvs⟩ := x
                      obtain ⟨yn, ym, ysA, ysc, yss, ycA, ycc, ycs, yvA, yvc, yvs⟩ := y
                      simp only [Vl.n, Vl.m, Vl.s1, Vl.c1, Vl.v1] at hc0 hc1 hc2 hc3 hc4 hd0 hd1 hd2 hd3 hd4
                      obtain ⟨q, hq⟩ : ∃ q, decide ((Vl.mk xn xm xsA xsc xss xcA xcc xcs xvA xvc xvs).er = (Vl.mk yn ym ysA ysc yss ycA ycc ycs yvA yvc yvs).er) = q := ⟨_, rfl⟩
                      have HQ := Lib.hid hq
                      clear hq
                      have hlti : (k : Int) < (vs.length : Int) := by omega
                      have HBW := Lib.hid hbw
                      clear hbw
                      go_wp2_with fail
                      go_still_tail 10, (by kernel_rfl)
                      change wpList _ _ _ _ _ wr.drew
                      go_wp2_with fail
                      refine (IH.out _ HM.out _ _ (HIX.out.later (drewB wr)) (HIY.out.later (drewB wr))).mono ?_
                      rintro e w2 ⟨rfl, hb2⟩
                      rw [HQ.out]
                      have hb3 : Below wr.heap.size wr w2 := (drewB wr).trans hb2
                      replace a4 := (hb3.cell (p := ⟨w.heap.size, 4, none⟩) (by show w.heap.size < _; omega)).trans a4
                      replace b4 := (hb3.cell (p := ⟨w.heap.size + 1, 4, none⟩) hsz).trans b4
                      replace hsz := Nat.lt_of_lt_of_le hsz hb3.size
                      have hbw2 : Below w.heap.size w w2 := HBW.out.trans (hb3.mono HBW.out.size)
                      clear hb2 hb3 hc0 hc1 hc2 hc3 hc4 hd0 hd1 hd2 hd3 hd4
                      cases q with
                      | false =>
                        go_wp2_with fail
                        go_ret
                        exact ⟨ret_bool (r_false HR.out fun h => map_ne_at (f := Vl.er) HX.out HY.out (of_decide_eq_false HQ.out) h.2.2.2.2), hbw2⟩
                      | true =>
                        go_wp2_with fail
                        go_roundw
                        case rel => exact ⟨k + 1, by omega, by go_num, map_take_succ (f := Vl.er) h0.out HX.out HY.out (of_decide_eq_true HQ.out), hbw2, a4, b4, hsz⟩
                        case measure => simp [intOf]; omega
                    · go_wp2_with fail
                      go_ret
                      exact ⟨ret_bool (r_true HR.out ⟨by simp, by simp, of_decide_eq_true HT.out, HCE.out, map_take_all h0.out (by omega) (by have := C4'.out; omega)⟩), hbw⟩
            · have d4 : ¬ ((vs.length : Int) = vs'.length) := by omega
              have D4 := Lib.hid c4
              clear c4
              go_wp2_with fail
              go_ret
              exact ⟨ret_bool (r_false HR.out fun h => D4.out (by simpa using congrArg List.length h.2.2.2.2)), hbw1⟩
          · have d3 : ¬ ((cs.length : Int) = cs'.length) := by omega
            have D3 := Lib.hid c3
            clear c3
            go_wp2_with fail
            go_ret
            exact ⟨ret_bool (r_false HR.out fun h => D3.out (by simpa using congrArg List.length h.2.2.2.1)), hbw1⟩
      · have d2 : (m == m') = false := by simp [c2]
        have D2 := Lib.hid c2
        clear c2
        go_enter Tryz.func14, Tryz.ntmps14
        go_wp2_with fail
        go_ret
        exact ⟨ret_bool (r_false HR.out fun h => D2.out h.2.1), HW0.out⟩
    · have d1 : (n == n') = false := by simp [c1]
      have D1 := Lib.hid c1
      clear c1
      go_enter Tryz.func14, Tryz.ntmps14
      go_wp2_with fail
      go_ret
      exact ⟨ret_bool (r_false HR.out fun h => D1.out h.1), HW0.out⟩
end Go.Proofs.YtleejffjnknohaaGreat.V4

namespace Go.Proofs.YtleejffjnknohaaGreat.V4
open Go.RowKit
open C3 (Tk Asc isC ofC cmpC Nok In belAl allocB drewB RetT)

/-- No text of more than 16 bytes. -/
def shortV (ss : List Str) : Bool := ss.all fun s => decide (s.length ≤ 16)

theorem all_succ {α : Type} {p : α → Bool} {l : List α} {k : Nat} {x : α} (h0 : (l.take k).all p = true) (hx : l[k]? = some x) (h : p x = true) : (l.take (k + 1)).all p = true := by
  obtain ⟨hi, he⟩ := List.getElem?_eq_some_iff.1 hx
  rw [List.take_succ_eq_append_getElem hi, List.all_append, h0, he]
  simp [h]
theorem all_end {α : Type} {p : α → Bool} {l : List α} {k : Nat} (h0 : (l.take k).all p = true) (h : l.length ≤ k) : l.all p = true := by rwa [List.take_of_length_le h] at h0
theorem all_fail {α : Type} {p : α → Bool} {l : List α} {k : Nat} {x : α} (hx : l[k]? = some x) (h : p x = false) : l.all p = false := by
  rw [List.all_eq_false]
  exact ⟨x, List.mem_of_getElem? hx, by simp [h]⟩

theorem S_size (x : Str) : (S x).size = x.length := by simp [S, ByteArray.size]

set_option maxHeartbeats 400000 in
theorem refShort_any (A : Option Addr) (c : Nat) (ss : List Str) (w : World) (hl : Lies w A ss) (hn : ss.length ≤ maxLen) (ht : ∀ s ∈ ss, s.length ≤ maxLen) :
    Calls Tryz.prog 81 #[.slice A ss.length c] w fun e w' => e = .returned (.bool (shortV ss)) ∧ w = w' := by
  unfold maxLen at hn
  have HT := Lib.hid ht
  clear ht
  go_enter Tryz.func81, Tryz.ntmps81
  go_wp2_with fail
  go_loop [3] (fun iv => ∃ k : Nat, k ≤ ss.length ∧ iv = .int .i64 k ∧ Hid ((ss.take k).all (fun s => decide (s.length ≤ 16)) = true)) (fun iv => ss.length - (intOf iv).toNat)
  case atStart => exact ⟨0, Nat.zero_le _, rfl, by simp [Hid]⟩
  case round =>
    obtain ⟨k, hk, rfl, h0⟩ := hrel
    by_cases hlt : k < ss.length
    · obtain ⟨b, off, rfl, hb, hc⟩ := hl.get hlt
      obtain ⟨x, hx⟩ : ∃ x, ss[k]? = some x := ⟨_, List.getElem?_eq_getElem hlt⟩
      have hc0 := hc k x hx
      have HX := Lib.hid hx
      have hxm : x.length ≤ 9223372036854775807 := by have := HT.out x (List.mem_of_getElem? hx); unfold maxLen at this; omega
      have hxs : (S x).size = x.length := S_size x
      clear hx hc hl
      by_cases c1 : x.length ≤ 16
      · have HP : Hid ((fun s : Str => decide (s.length ≤ 16)) x = true) := decide_eq_true c1
        have d1 : decide (16 < (x.length : Int)) = false := decide_eq_false (by omega)
        go_wp2_with fail
        go_round
        case rel => exact ⟨k + 1, by omega, by go_num, all_succ h0.out HX.out HP.out⟩
        case measure => simp [intOf]; omega
      · have HP : Hid ((fun s : Str => decide (s.length ≤ 16)) x = false) := decide_eq_false c1
        have d1 : 16 < x.length := by omega
        go_wp2_with fail
        go_ret
        exact ⟨ret_bool (all_fail HX.out HP.out).symm, rfl⟩
    · go_wp2_with fail
      go_ret
      exact ⟨ret_bool (all_end h0.out (by omega)).symm, rfl⟩

/-- Has a value no parts but these? By its numbers and its lists' lengths. -/
def hasN (n m : Int) (a b d : Nat) (p q r s t : Bool) : Bool := (p || decide (n = 0)) && ((q || decide (m = 0)) && ((r || decide (a = 0)) && ((s || decide (b = 0)) && (t || decide (d = 0)))))

theorem has_end {p : Bool} {P : Prop} [Decidable P] (h : p = true ∨ (p = false ∧ P)) : (p || decide P) = true := by
  rcases h with rfl | ⟨rfl, h⟩
  · rfl
  · simp [h]
theorem has_no {p : Bool} {P : Prop} [Decidable P] (h : p = false ∧ ¬ P) : (p || decide P) = false := by
  obtain ⟨rfl, h⟩ := h
  simp [h]

set_option maxHeartbeats 8000000 in
theorem refHas_any (n m : Int) (sA : Option Addr) (sc a : Nat) (cA : Option Addr) (cc b : Nat) (vA : Option Addr) (vc d : Nat) (p q r s t : Bool) (w : World) :
    Calls Tryz.prog 80 #[.agg #[.int .u64 n, .int .u64 m, .slice sA a sc, .slice cA b cc, .slice vA d vc], .bool p, .bool q, .bool r, .bool s, .bool t] w (RetV w (.bool (hasN n m a b d p q r s t))) := by
  have hp : p = true ∨ (p = false ∧ n = 0) ∨ (p = false ∧ ¬ n = 0) := by cases p <;> simp <;> exact Decidable.em _
  have hq : q = true ∨ (q = false ∧ m = 0) ∨ (q = false ∧ ¬ m = 0) := by cases q <;> simp <;> exact Decidable.em _
  have hr : r = true ∨ (r = false ∧ a = 0) ∨ (r = false ∧ ¬ a = 0) := by cases r <;> simp <;> exact Decidable.em _
  have hs : s = true ∨ (s = false ∧ b = 0) ∨ (s = false ∧ ¬ b = 0) := by cases s <;> simp <;> exact Decidable.em _
  have ht : t = true ∨ (t = false ∧ d = 0) ∨ (t = false ∧ ¬ d = 0) := by cases t <;> simp <;> exact Decidable.em _
  obtain ⟨R, hR⟩ : ∃ R, hasN n m a b d p q r s t = R := ⟨_, rfl⟩
  rw [hR]
  have HR := Lib.hid hR
  clear hR
  rcases hp with rfl | ⟨rfl, rfl⟩ | ⟨rfl, h1⟩
  rotate_left 2
  · have e1 : (n == 0) = false := by simp [h1]
    have HF : Hid (R = false) := by show R = false; rw [← HR.out]; simp [hasN, h1]
    clear hq hr hs ht h1
    go_enter Tryz.func80, Tryz.ntmps80
    go_wp2_with fail
    go_ret
    exact ⟨ret_bool HF.out.symm, allocB _ _⟩
  all_goals
    rcases hq with rfl | ⟨rfl, rfl⟩ | ⟨rfl, h1⟩
    rotate_left 2
    · have e1 : (m == 0) = false := by simp [h1]
      have HF : Hid (R = false) := by show R = false; rw [← HR.out]; simp [hasN, h1]
      clear hr hs ht h1
      go_enter Tryz.func80, Tryz.ntmps80
      go_wp2_with fail
      go_ret
      exact ⟨ret_bool HF.out.symm, allocB _ _⟩
    all_goals
      rcases hr with rfl | ⟨rfl, rfl⟩ | ⟨rfl, h1⟩
      rotate_left 2
      · have e1 : ((a : Int) == 0) = false := by simp [h1]
        have HF : Hid (R = false) := by show R = false; rw [← HR.out]; simp [hasN, h1]
        clear hs ht
        go_enter Tryz.func80, Tryz.ntmps80
        go_wp2_with fail
        go_ret
        exact ⟨ret_bool HF.out.symm, allocB _ _⟩
      all_goals
        rcases hs with rfl | ⟨rfl, rfl⟩ | ⟨rfl, h1⟩
        rotate_left 2
        · have e1 : ((b : Int) == 0) = false := by simp [h1]
          have HF : Hid (R = false) := by show R = false; rw [← HR.out]; simp [hasN, h1]
          clear ht
          go_enter Tryz.func80, Tryz.ntmps80
          go_wp2_with fail
          go_ret
          exact ⟨ret_bool HF.out.symm, allocB _ _⟩
        all_goals
          rcases ht with rfl | ⟨rfl, rfl⟩ | ⟨rfl, h1⟩
          rotate_left 2
          · have e1 : ((d : Int) == 0) = false := by simp [h1]
            have HF : Hid (R = false) := by show R = false; rw [← HR.out]; simp [hasN, h1]
            go_enter Tryz.func80, Tryz.ntmps80
            go_wp2_with fail
            go_ret
            exact ⟨ret_bool HF.out.symm, allocB _ _⟩
          all_goals
            have HF : Hid (R = true) := by show R = true; rw [← HR.out]; simp [hasN]
            go_enter Tryz.func80, Tryz.ntmps80
            go_wp2_with fail
            go_ret
            exact ⟨ret_bool HF.out.symm, allocB _ _⟩
end Go.Proofs.YtleejffjnknohaaGreat.V4
