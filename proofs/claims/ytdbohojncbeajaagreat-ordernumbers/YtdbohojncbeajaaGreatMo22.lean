/- What lowest does, of two rows of which one at least isn't empty. No condition but that the slices read as strings. What beside gives: two rows gone through together. No condition but that the slices read as strings. What rows.With, rows.Both, rows.Without and rows.Within do, of rows that rise. No condition but that the slices read as strings that rise, at most 400000. What rows.Both does, of rows that rise: its answer lies in new memory. No condition but that the slices read as strings that rise, at most 300000. -/
import Derived.Test.YtdbohojncbeajaaGreatMo04
import Derived.RangeFuncNested
import Derived.RangeFuncBound
import Derived.RangeFuncCalls
import Derived.RangeFuncLeaves
import Derived.Shelf.Abstract
import Derived.Shelf.RegionOpen
import Derived.OwnWalkIn
import Derived.TacticsInMore
import Derived.LoopNIn
import Derived.LoopIn
import Derived.Sort.QuietIn
import Derived.Test.YtdbohojncbeajaaGreatMo05
namespace Go.Proofs.YtdbohojncbeajaaGreat.R1
open Go.RowKit

theorem len_pos {ys : List Str} {y : Str} (h : ys[0]? = some y) : ((ys.length : Int) == 0) = false := by
  have := (List.getElem?_eq_some_iff.1 h).1
  rw [beq_eq_false_iff_ne]; omega
theorem pos_of {ys : List Str} {y : Str} (h : ys[0]? = some y) : 0 < ys.length := (List.getElem?_eq_some_iff.1 h).1

/-- A call that answers a string and a side. -/
def RetE (w : World) (x : Str) (k : Int) (e : Ending) (w' : World) : Prop := e = .returned (.tuple #[.string (S x), .int .i64 k]) ∧ ∃ n, w' = w.drewN n

set_option maxHeartbeats 1000000 in
theorem lowest_nil2 (A B : Option Addr) (c d : Nat) (xs : List Str) (x : Str) (w : World) (hl : Lies w A xs) (hx : xs[0]? = some x) :
    Calls Tryz.prog 116 #[.slice A xs.length c, .slice B 0 d] w (RetE w x 0) := by
  have hpos := pos_of hx
  obtain ⟨b, off, rfl, hb, hc⟩ := hl.get hpos
  have hcx : w.cell? ⟨b, off, none⟩ = some (.string (S x)) := hc 0 x hx
  clear hc hl hx
  go_enter Tryz.func116, Tryz.ntmps116
  go_wp2
  go_quiet (fail)
  go_wp2
  go_ret2
  exact ⟨rfl, _, rfl⟩

set_option maxHeartbeats 1000000 in
theorem lowest_lt (A B : Option Addr) (c d : Nat) (xs ys : List Str) (x y : Str) (w : World) (hl : Lies w A xs) (hm : Lies w B ys) (hx : xs[0]? = some x) (hy : ys[0]? = some y) (hlt : x < y) :
    Calls Tryz.prog 116 #[.slice A xs.length c, .slice B ys.length d] w (RetE w x 0) := by
  have hpos := pos_of hx
  have hpos' := pos_of hy
  have hz := len_pos hy
  obtain ⟨b, off, rfl, hb, hc⟩ := hl.get hpos
  obtain ⟨b', off', rfl, hb', hc'⟩ := hm.get hpos'
  have hcx : w.cell? ⟨b, off, none⟩ = some (.string (S x)) := hc 0 x hx
  have hcy : w.cell? ⟨b', off', none⟩ = some (.string (S y)) := hc' 0 y hy
  have hb1 := bl_true hlt
  have hd : decide (0 < xs.length) = true := decide_eq_true hpos
  clear hc hl hx hc' hm hy hlt
  go_enter Tryz.func116, Tryz.ntmps116
  go_wp2
  go_quiet (fail)
  go_wp2
  go_ret2
  exact ⟨rfl, _, rfl⟩

set_option maxHeartbeats 1000000 in
theorem lowest_nil1 (A B : Option Addr) (c d : Nat) (ys : List Str) (y : Str) (w : World) (hm : Lies w B ys) (hy : ys[0]? = some y) :
    Calls Tryz.prog 116 #[.slice A 0 c, .slice B ys.length d] w (RetE w y 1) := by
  have hpos' := pos_of hy
  have hz := len_pos hy
  obtain ⟨b', off', rfl, hb', hc'⟩ := hm.get hpos'
  have hcy : w.cell? ⟨b', off', none⟩ = some (.string (S y)) := hc' 0 y hy
  clear hc' hm hy
  go_enter Tryz.func116, Tryz.ntmps116
  go_wp2
  go_quiet (fail)
  go_wp2
  go_quiet (fail)
  go_wp2
  go_ret2
  exact ⟨rfl, _, rfl⟩

set_option maxHeartbeats 1000000 in
theorem lowest_gt (A B : Option Addr) (c d : Nat) (xs ys : List Str) (x y : Str) (w : World) (hl : Lies w A xs) (hm : Lies w B ys) (hx : xs[0]? = some x) (hy : ys[0]? = some y) (hlt : y < x) :
    Calls Tryz.prog 116 #[.slice A xs.length c, .slice B ys.length d] w (RetE w y 1) := by
  have hpos := pos_of hx
  have hpos' := pos_of hy
  have hz := len_pos hy
  have hz' := len_pos hx
  obtain ⟨b, off, rfl, hb, hc⟩ := hl.get hpos
  obtain ⟨b', off', rfl, hb', hc'⟩ := hm.get hpos'
  have hcx : w.cell? ⟨b, off, none⟩ = some (.string (S x)) := hc 0 x hx
  have hcy : w.cell? ⟨b', off', none⟩ = some (.string (S y)) := hc' 0 y hy
  have hb1 := bl_true hlt
  have hb2 := bl_false (str_asymm hlt)
  have hd : decide (0 < xs.length) = true := decide_eq_true hpos
  clear hc hl hx hc' hm hy hlt
  go_enter Tryz.func116, Tryz.ntmps116
  go_wp2
  go_quiet (fail)
  go_wp2
  go_quiet (fail)
  go_wp2
  go_ret2
  exact ⟨rfl, _, rfl⟩

set_option maxHeartbeats 1000000 in
theorem lowest_eq (A B : Option Addr) (c d : Nat) (xs ys : List Str) (x : Str) (w : World) (hl : Lies w A xs) (hm : Lies w B ys) (hx : xs[0]? = some x) (hy : ys[0]? = some x) :
    Calls Tryz.prog 116 #[.slice A xs.length c, .slice B ys.length d] w (RetE w x 2) := by
  have hpos := pos_of hx
  have hpos' := pos_of hy
  have hz := len_pos hy
  have hz' := len_pos hx
  obtain ⟨b, off, rfl, hb, hc⟩ := hl.get hpos
  obtain ⟨b', off', rfl, hb', hc'⟩ := hm.get hpos'
  have hcx : w.cell? ⟨b, off, none⟩ = some (.string (S x)) := hc 0 x hx
  have hcy : w.cell? ⟨b', off', none⟩ = some (.string (S x)) := hc' 0 x hy
  have hb2 := bl_false (str_irrefl x)
  have hd : decide (0 < xs.length) = true := decide_eq_true hpos
  clear hc hl hx hc' hm hy
  go_enter Tryz.func116, Tryz.ntmps116
  go_wp2
  go_quiet (fail)
  go_wp2
  go_quiet (fail)
  go_wp2
  go_ret2
  exact ⟨rfl, _, rfl⟩
end Go.Proofs.YtdbohojncbeajaaGreat.R1

namespace Go.Proofs.YtdbohojncbeajaaGreat.R1
open Go.RowKit Go.Shelf

attribute [local go_sem] Oper.semAt_some

/-- The strings lie below block n₀. -/
def Lies0 (n₀ : Nat) (w : World) (A : Option Addr) (xs : List Str) : Prop :=
  xs = [] ∨ ∃ b off, A = some ⟨b, off, none⟩ ∧ b < n₀ ∧ ∀ i x, xs[i]? = some x → w.cell? ⟨b, off + i, none⟩ = some (.string (S x))

theorem Lies.zero {w : World} {A : Option Addr} {xs : List Str} (h : Lies w A xs) : Lies0 w.heap.size w A xs := h
theorem Lies0.lies {n₀ : Nat} {w : World} {A : Option Addr} {xs : List Str} (h : Lies0 n₀ w A xs) (hn : n₀ ≤ w.heap.size) : Lies w A xs := by
  rcases h with h | ⟨b, off, hA, hb, h⟩
  · exact .inl h
  · exact .inr ⟨b, off, hA, Nat.lt_of_lt_of_le hb hn, h⟩
theorem Lies0.below {n₀ : Nat} {w w' : World} {A : Option Addr} {xs : List Str} (h : Lies0 n₀ w A xs) (hb : Below n₀ w w') : Lies0 n₀ w' A xs := by
  rcases h with h | ⟨b, off, hA, hlt, h⟩
  · exact .inl h
  · exact .inr ⟨b, off, hA, hlt, fun i x hx => (hb.cell (p := ⟨b, off + i, none⟩) hlt).trans (h i x hx)⟩
theorem Lies0.drewN {n₀ : Nat} {w : World} {A : Option Addr} {xs : List Str} (h : Lies0 n₀ w A xs) (n : Nat) : Lies0 n₀ (w.drewN n) A xs := h

/-- A slice without its first. -/
theorem Lies0.tail {n₀ : Nat} {w : World} {A : Option Addr} {x : Str} {xr : List Str} (h : Lies0 n₀ w A (x :: xr)) :
    ∃ b off, A = some ⟨b, off, none⟩ ∧ Lies0 n₀ w (some ⟨b, off + 1, none⟩) xr := by
  rcases h with h | ⟨b, off, hA, hlt, h⟩
  · cases h
  · refine ⟨b, off, hA, .inr ⟨b, off + 1, rfl, hlt, fun i y hy => ?_⟩⟩
    have := h (i + 1) y (by simpa using hy)
    rwa [show off + 1 + i = off + (i + 1) by omega]

theorem abides_drewN {J : List (Str × Int) → World → Prop} {B : Nat} (hJ : AbidesFrom B J) {pre : List (Str × Int)} {w : World} (n : Nat) (h : J pre w) : J pre (w.drewN n) :=
  hJ pre w (w.drewN n) none h ⟨rfl, rfl, rfl, Nat.le_refl _, fun _ _ _ => rfl⟩ (fun _ e => by cases e)

/-- How many are still to come: for the loop's measure. -/
def lenV : Value → Nat | .slice _ n _ => n | _ => 0

set_option maxRecDepth 100000 in
set_option maxHeartbeats 2000000 in
theorem beside1_in (n : Nat) (l Ba Bb n₀ : Nat) (A B : Option Addr) (c d : Nat) (xs ys : List Str) (J Jx : List (Str × Int) → World → Prop) (W : World) (hJ : AbidesFrom W.heap.size J)
    (hY : ∀ pre x W1, J pre W1 → pre.length < xs.length + ys.length → YieldAt Fence.wide (n - 1) Tryz.prog l #[.string (S x.1), .int .i64 x.2] W1 fun e W' =>
      (e = .returned (.bool true) ∧ J (pre ++ [x]) W' ∧ Below n₀ W1 W') ∨ (e = .returned (.bool false) ∧ Jx (pre ++ [x]) W'))
    (hn₀ : n₀ ≤ W.heap.size) (hBa : W.cell? ⟨Ba, 0, none⟩ = some (.slice A xs.length c)) (hBb : W.cell? ⟨Bb, 0, none⟩ = some (.slice B ys.length d)) (hc : xs.length ≤ c) (hd : ys.length ≤ d) (hcm : c ≤ maxLen) (hdm : d ≤ maxLen)
    (hl : Lies0 n₀ W A xs) (hm : Lies0 n₀ W B ys) (h0 : J [] W) :
    CallsIn Fence.wide n Tryz.prog 115 #[.func (.yield l) #[] #[], .pointer (some ⟨Ba, 0, none⟩), .pointer (some ⟨Bb, 0, none⟩)] W fun e W' => (∃ v, e = .returned v) ∧
      ((∃ zs, zs = be xs ys ∧ J zs W') ∨ (∃ pre, pre <+: be xs ys ∧ Jx pre W')) := by
  unfold maxLen at hcm hdm
  refine callsIn_of_wp Tryz.func115 rfl trivial ?_ rfl
  simp only [Tryz.ntmps115, List.size_toArray, List.length_cons, List.length_nil, Nat.reduceAdd, Nat.reduceSub, Array.replicate_succ, Array.replicate_zero, List.push_toArray, List.append_toArray, List.nil_append, List.cons_append]
  gi_wp2
  gi_quiet (fail)
  gi_wp2
  gi_loopw [4, 5] (fun u v wr => ∃ (pre : List (Str × Int)) (xr yr : List Str) (A' B' : Option Addr) (c' d' : Nat), u = .slice A' xr.length c' ∧ v = .slice B' yr.length d' ∧ xr.length ≤ c' ∧ c' ≤ 2 ^ 63 - 1 ∧ yr.length ≤ d' ∧ d' ≤ 2 ^ 63 - 1 ∧ Lies0 n₀ wr A' xr ∧ Lies0 n₀ wr B' yr ∧ Hid (be xs ys = pre ++ be xr yr) ∧ J pre wr ∧ n₀ ≤ wr.heap.size)
    (fun u v _ => lenV u + lenV v)
  case atStart => exact ⟨[], xs, ys, A, B, c, d, rfl, rfl, hc, hcm, hd, hdm, hl, hm, rfl, abides_drewN hJ _ h0, hn₀⟩
  case round =>
    obtain ⟨pre, xr, yr, A', B', c', d', rfl, rfl, hc1, hc2, hd1, hd2, hl1, hm1, h1, hJ1, hn1⟩ := hrel
    clear hBa hBb hl hm h0 hc hd hcm hdm
    have hplen : ∀ x r, be xr yr = x :: r → pre.length < xs.length + ys.length := by
      intro x r e
      have := be_len xs ys
      rw [h1.out, e] at this
      simp at this
      omega
    cases xr with
    | nil =>
      cases yr with
      | nil =>
        gi_wp2
        go_end0
        exact ⟨⟨_, rfl⟩, .inl ⟨pre, by rw [h1.out, be_nil]; simp, hJ1⟩⟩
      | cons y yr =>
        have hpl := hplen _ _ (be_right y yr)
        have H1 : Hid (be xs ys = (pre ++ [(y, 1)]) ++ be [] yr) := by
          show be xs ys = _
          rw [h1.out, show _ = _ from (be_right y yr)]; simp
        clear hplen h1
        obtain ⟨b', off', rfl, ht'⟩ := hm1.tail
        have q2 : yr.length + 1 ≤ d' := hd1
        gi_wp2_with fail
        refine ⟨trivial, fun h => absurd h (by simp [Fence.wide]), (callsIn_wide.2 (lowest_nil1 A' _ c' d' (y :: yr) y wr (hm1.lies hn1) rfl)).mono ?_⟩
        rintro e w' ⟨rfl, q, rfl⟩
        obtain ⟨fn, tmps, assign, body, hy, hR⟩ := hY pre (y, 1) (wr.drewN q) (abides_drewN hJ q hJ1) hpl
        dsimp only at hy
        clear hY
        by_cases hdd : d' = 1
        all_goals
          gi_wp2
          refine ⟨fun h => absurd h (by simp [Fence.wide]), hR.mono ?_⟩
          rintro e W3 (⟨rfl, hJ3, hk3⟩ | ⟨rfl, hJx3⟩)
          · gi_wp2
            go_roundw
            case rel =>
              refine ⟨pre ++ [(y, 1)], [], yr, _, _, _, _, rfl, rfl, ?_, ?_, ?_, ?_, ?_, ?_, H1, hJ3, Nat.le_trans hn1 hk3.size⟩
              all_goals first
                | exact (Or.inl rfl)
                | exact (ht'.drewN q).below hk3
                | (refine Or.inl (List.eq_nil_of_length_eq_zero ?_); omega)
                | (simp only [List.length_nil]; omega)
                | (simp only [List.length_cons]; omega)
                | omega
            case measure => first | (simp [lenV]; done) | (simp [lenV]; omega)
          · gi_wp2
            refine bodyPost_ret (results_none rfl _ _ _) rfl ?_
            exact ⟨⟨_, rfl⟩, .inr ⟨pre ++ [(y, 1)], ⟨_, H1.out.symm⟩, hJx3⟩⟩
    | cons x xr =>
      cases yr with
      | nil =>
        have hpl := hplen _ _ (be_left x xr)
        have H1 : Hid (be xs ys = (pre ++ [(x, 0)]) ++ be xr []) := by
          show be xs ys = _
          rw [h1.out, show _ = _ from (be_left x xr)]; simp
        clear hplen h1
        obtain ⟨b, off, rfl, ht⟩ := hl1.tail
        have q1 : xr.length + 1 ≤ c' := hc1
        gi_wp2_with fail
        refine ⟨trivial, fun h => absurd h (by simp [Fence.wide]), (callsIn_wide.2 (lowest_nil2 _ B' c' d' (x :: xr) x wr (hl1.lies hn1) rfl)).mono ?_⟩
        rintro e w' ⟨rfl, q, rfl⟩
        obtain ⟨fn, tmps, assign, body, hy, hR⟩ := hY pre (x, 0) (wr.drewN q) (abides_drewN hJ q hJ1) hpl
        dsimp only at hy
        clear hY
        by_cases hcc : c' = 1
        all_goals
          gi_wp2
          refine ⟨fun h => absurd h (by simp [Fence.wide]), hR.mono ?_⟩
          rintro e W3 (⟨rfl, hJ3, hk3⟩ | ⟨rfl, hJx3⟩)
          · gi_wp2
            go_roundw
            case rel =>
              refine ⟨pre ++ [(x, 0)], xr, [], _, _, _, _, rfl, rfl, ?_, ?_, ?_, ?_, ?_, ?_, H1, hJ3, Nat.le_trans hn1 hk3.size⟩
              all_goals first
                | exact (Or.inl rfl)
                | exact (ht.drewN q).below hk3
                | (refine Or.inl (List.eq_nil_of_length_eq_zero ?_); omega)
                | (simp only [List.length_nil]; omega)
                | (simp only [List.length_cons]; omega)
                | omega
            case measure => first | (simp [lenV]; done) | (simp [lenV]; omega)
          · gi_wp2
            refine bodyPost_ret (results_none rfl _ _ _) rfl ?_
            exact ⟨⟨_, rfl⟩, .inr ⟨pre ++ [(x, 0)], ⟨_, H1.out.symm⟩, hJx3⟩⟩
      | cons y yr =>
        rcases str_tri x y with hxy | hxy | hxy
        · have hpl := hplen _ _ (be_lt xr yr hxy)
          have H1 : Hid (be xs ys = (pre ++ [(x, 0)]) ++ be xr (y :: yr)) := by
            show be xs ys = _
            rw [h1.out, show _ = _ from (be_lt xr yr hxy)]; simp
          clear hplen h1
          obtain ⟨b, off, rfl, ht⟩ := hl1.tail
          have q1 : xr.length + 1 ≤ c' := hc1
          obtain ⟨b', off', rfl, ht'⟩ := hm1.tail
          have q2 : yr.length + 1 ≤ d' := hd1
          have HXY := Lib.hid hxy
          clear hxy ht'
          gi_wp2_with fail
          refine ⟨trivial, fun h => absurd h (by simp [Fence.wide]), (callsIn_wide.2 (lowest_lt _ _ c' d' (x :: xr) (y :: yr) x y wr (hl1.lies hn1) (hm1.lies hn1) rfl rfl HXY.out)).mono ?_⟩
          rintro e w' ⟨rfl, q, rfl⟩
          obtain ⟨fn, tmps, assign, body, hy, hR⟩ := hY pre (x, 0) (wr.drewN q) (abides_drewN hJ q hJ1) hpl
          dsimp only at hy
          clear hY
          by_cases hcc : c' = 1
          all_goals
            gi_wp2
            refine ⟨fun h => absurd h (by simp [Fence.wide]), hR.mono ?_⟩
            rintro e W3 (⟨rfl, hJ3, hk3⟩ | ⟨rfl, hJx3⟩)
            · gi_wp2
              go_roundw
              case rel =>
                refine ⟨pre ++ [(x, 0)], xr, (y :: yr), _, _, _, _, rfl, rfl, ?_, ?_, ?_, ?_, ?_, ?_, H1, hJ3, Nat.le_trans hn1 hk3.size⟩
                all_goals first
                  | exact (hm1.drewN q).below hk3
                  | exact (ht.drewN q).below hk3
                  | (refine Or.inl (List.eq_nil_of_length_eq_zero ?_); omega)
                  | (simp only [List.length_nil]; omega)
                  | (simp only [List.length_cons]; omega)
                  | omega
              case measure => first | (simp [lenV]; done) | (simp [lenV]; omega)
            · gi_wp2
              refine bodyPost_ret (results_none rfl _ _ _) rfl ?_
              exact ⟨⟨_, rfl⟩, .inr ⟨pre ++ [(x, 0)], ⟨_, H1.out.symm⟩, hJx3⟩⟩
        · subst hxy
          have hpl := hplen _ _ (be_eq x xr yr)
          have H1 : Hid (be xs ys = (pre ++ [(x, 2)]) ++ be xr yr) := by
            show be xs ys = _
            rw [h1.out, show _ = _ from (be_eq x xr yr)]; simp
          clear hplen h1
          obtain ⟨b, off, rfl, ht⟩ := hl1.tail
          have q1 : xr.length + 1 ≤ c' := hc1
          obtain ⟨b', off', rfl, ht'⟩ := hm1.tail
          have q2 : yr.length + 1 ≤ d' := hd1
          gi_wp2_with fail
          refine ⟨trivial, fun h => absurd h (by simp [Fence.wide]), (callsIn_wide.2 (lowest_eq _ _ c' d' (x :: xr) (x :: yr) x wr (hl1.lies hn1) (hm1.lies hn1) rfl rfl)).mono ?_⟩
          rintro e w' ⟨rfl, q, rfl⟩
          obtain ⟨fn, tmps, assign, body, hy, hR⟩ := hY pre (x, 2) (wr.drewN q) (abides_drewN hJ q hJ1) hpl
          dsimp only at hy
          clear hY
          by_cases hcc : c' = 1 <;> by_cases hdd : d' = 1
          all_goals
            gi_wp2
            refine ⟨fun h => absurd h (by simp [Fence.wide]), hR.mono ?_⟩
            rintro e W3 (⟨rfl, hJ3, hk3⟩ | ⟨rfl, hJx3⟩)
            · gi_wp2
              go_roundw
              case rel =>
                refine ⟨pre ++ [(x, 2)], xr, yr, _, _, _, _, rfl, rfl, ?_, ?_, ?_, ?_, ?_, ?_, H1, hJ3, Nat.le_trans hn1 hk3.size⟩
                all_goals first
                  | exact (ht.drewN q).below hk3
                  | (refine Or.inl (List.eq_nil_of_length_eq_zero ?_); omega)
                  | exact (ht'.drewN q).below hk3
                  | (refine Or.inl (List.eq_nil_of_length_eq_zero ?_); omega)
                  | (simp only [List.length_nil]; omega)
                  | (simp only [List.length_cons]; omega)
                  | omega
              case measure => first | (simp [lenV]; done) | (simp [lenV]; omega)
            · gi_wp2
              refine bodyPost_ret (results_none rfl _ _ _) rfl ?_
              exact ⟨⟨_, rfl⟩, .inr ⟨pre ++ [(x, 2)], ⟨_, H1.out.symm⟩, hJx3⟩⟩
        · have hpl := hplen _ _ (be_gt xr yr hxy)
          have H1 : Hid (be xs ys = (pre ++ [(y, 1)]) ++ be (x :: xr) yr) := by
            show be xs ys = _
            rw [h1.out, show _ = _ from (be_gt xr yr hxy)]; simp
          clear hplen h1
          obtain ⟨b, off, rfl, ht⟩ := hl1.tail
          have q1 : xr.length + 1 ≤ c' := hc1
          obtain ⟨b', off', rfl, ht'⟩ := hm1.tail
          have q2 : yr.length + 1 ≤ d' := hd1
          have HXY := Lib.hid hxy
          clear hxy ht
          gi_wp2_with fail
          refine ⟨trivial, fun h => absurd h (by simp [Fence.wide]), (callsIn_wide.2 (lowest_gt _ _ c' d' (x :: xr) (y :: yr) x y wr (hl1.lies hn1) (hm1.lies hn1) rfl rfl HXY.out)).mono ?_⟩
          rintro e w' ⟨rfl, q, rfl⟩
          obtain ⟨fn, tmps, assign, body, hy, hR⟩ := hY pre (y, 1) (wr.drewN q) (abides_drewN hJ q hJ1) hpl
          dsimp only at hy
          clear hY
          by_cases hdd : d' = 1
          all_goals
            gi_wp2
            refine ⟨fun h => absurd h (by simp [Fence.wide]), hR.mono ?_⟩
            rintro e W3 (⟨rfl, hJ3, hk3⟩ | ⟨rfl, hJx3⟩)
            · gi_wp2
              go_roundw
              case rel =>
                refine ⟨pre ++ [(y, 1)], (x :: xr), yr, _, _, _, _, rfl, rfl, ?_, ?_, ?_, ?_, ?_, ?_, H1, hJ3, Nat.le_trans hn1 hk3.size⟩
                all_goals first
                  | exact (hl1.drewN q).below hk3
                  | exact (ht'.drewN q).below hk3
                  | (refine Or.inl (List.eq_nil_of_length_eq_zero ?_); omega)
                  | (simp only [List.length_nil]; omega)
                  | (simp only [List.length_cons]; omega)
                  | omega
              case measure => first | (simp [lenV]; done) | (simp [lenV]; omega)
            · gi_wp2
              refine bodyPost_ret (results_none rfl _ _ _) rfl ?_
              exact ⟨⟨_, rfl⟩, .inr ⟨pre ++ [(y, 1)], ⟨_, H1.out.symm⟩, hJx3⟩⟩
end Go.Proofs.YtdbohojncbeajaaGreat.R1

namespace Go.Proofs.YtdbohojncbeajaaGreat.R1
open Go.RowKit Go.Shelf

attribute [local go_sem] Oper.semAt_some

set_option maxHeartbeats 1000000 in
theorem beside_any (w : World) (A B : Option Addr) (n m c d : Nat) :
    Calls Tryz.prog 85 #[.slice A n c, .slice B m d] w fun e w' => e = .returned (.func (.func 115) #[] #[.pointer (some ⟨w.heap.size, 0, none⟩), .pointer (some ⟨w.heap.size + 1, 0, none⟩)]) ∧
      (w.alloc (.cells #[.slice A n c] 111)).alloc (.cells #[.slice B m d] 111) = w' := by
  go_enter Tryz.func85, Tryz.ntmps85
  go_wp2
  go_ret
  exact ⟨rfl, rfl⟩

/-- How a pair is handed to the loop. -/
def encP (x : Str × Int) : Array Value := #[.string (S x.1), .int .i64 x.2]

theorem beside_stops (n : Nat) (Ba Bb n₀ : Nat) (A B : Option Addr) (c d : Nat) (xs ys : List Str) (w : World)
    (hn₀ : n₀ ≤ w.heap.size) (hBa : Ba < w.heap.size) (hBb : Bb < w.heap.size) (hca : w.cell? ⟨Ba, 0, none⟩ = some (.slice A xs.length c)) (hcb : w.cell? ⟨Bb, 0, none⟩ = some (.slice B ys.length d))
    (hc : xs.length ≤ c) (hd : ys.length ≤ d) (hcm : c ≤ maxLen) (hdm : d ≤ maxLen) (hl : Lies0 n₀ w A xs) (hm : Lies0 n₀ w B ys) :
    SeqStopsK Fence.wide n Tryz.prog 115 #[.pointer (some ⟨Ba, 0, none⟩), .pointer (some ⟨Bb, 0, none⟩)] encP (Below n₀) (fun zs => zs = be xs ys) (fun pre => pre <+: be xs ys) (xs.length + ys.length) w :=
  fun l J Jx W hW hJ _ hY h0 =>
    beside1_in n l Ba Bb n₀ A B c d xs ys J Jx W hJ hY (Nat.le_trans hn₀ hW.size) ((hW.cell (p := ⟨Ba, 0, none⟩) hBa).trans hca) ((hW.cell (p := ⟨Bb, 0, none⟩) hBb).trans hcb) hc hd hcm hdm (hl.below (hW.mono hn₀)) (hm.below (hW.mono hn₀)) h0

/-- The cells of a new row of empty strings. -/
def madeStr (n : Nat) : Array Value := madeCells #[.string { data := #[] }] n
theorem size_madeStr (n : Nat) : (madeStr n).size = n := size_madeCells _ _

theorem run_make0 (W : World) (t : TypeId) (ht : Tryz.prog.underlying t = some (.slice 9)) (m : Nat) (k : Int) (hk : k = m) (hm : m ≤ 1000000) :
    (Instr.makeSlice t (.int .i64 0) (.int .i64 k)).run Tryz.prog W = .ok (.slice (some ⟨W.heap.size, 0, none⟩) 0 m) (W.alloc (.cells (madeStr m) 9)) := by
  subst hk
  obtain ⟨i0, hi, hz0, hz1, hz2⟩ := info_parts Tryz.infoStr
  have hr := run_make (P := Tryz.prog) W t _ i0 _ ht hi hz0 .i64 .i64 0 m (Int.le_refl _) (by omega) (by rw [hz2]; omega) (by omega)
  simp only [Int.toNat_zero, Int.toNat_natCast, hz1, Nat.mul_one] at hr
  exact hr

/-- A call that answers the strings ys in new memory, and leaves all that was there. -/
def RetO (w : World) (ys : List Str) (e : Ending) (w' : World) : Prop := ∃ v, e = .returned v ∧ Own w' w.heap.size v ys ∧ Below w.heap.size w w'

set_option maxRecDepth 100000 in
set_option maxHeartbeats 2000000 in
theorem with_new (A B : Option Addr) (c d : Nat) (xs ys : List Str) (w : World) (hl : Lies w A xs) (hm : Lies w B ys) (hc : xs.length ≤ c) (hd : ys.length ≤ d) (hcm : c ≤ maxLen) (hdm : d ≤ maxLen) (hnx : xs.length ≤ 400000) (hny : ys.length ≤ 400000) :
    Calls Tryz.prog 60 #[.slice A xs.length c, .slice B ys.length d] w (RetO w (keysL (be xs ys))) := by
  have hmk : ∀ W : World, (Instr.makeSlice 111 (.int .i64 0) (.int .i64 ((xs.length : Int) + ys.length))).run Tryz.prog W = .ok (.slice (some ⟨W.heap.size, 0, none⟩) 0 (xs.length + ys.length)) (W.alloc (.cells (madeStr (xs.length + ys.length)) 9)) :=
    fun W => run_make0 W _ Tryz.underlying111 (xs.length + ys.length) _ (by omega) (by omega)
  refine (callsIn_wide (n := 6)).1 ?_
  refine callsIn_of_wp_marks Tryz.func60 rfl trivial ?_ rfl
  simp only [Tryz.ntmps60, List.size_toArray, List.length_cons, List.length_nil, Nat.reduceAdd, Nat.reduceSub, Array.replicate_succ, Array.replicate_zero, List.push_toArray, List.append_toArray, List.nil_append, List.cons_append]
  gi_wp2_with fail
  refine ⟨trivial, (callsIn_wide.2 (beside_any _ A B xs.length ys.length c d)).mono ?_⟩
  rintro e w' ⟨rfl, rfl⟩
  gi_wp2
  have hB0 : Below w.heap.size w ((((w.alloc (.cells (madeStr (xs.length + ys.length)) 9)).alloc (.cells #[.slice (some ⟨w.heap.size, 0, none⟩) 0 (xs.length + ys.length)] 111)).alloc (.cells #[.slice A xs.length c] 111)).alloc (.cells #[.slice B ys.length d] 111)) := ((((Below.refl _ w).alloc (Nat.le_refl _) _).alloc (by simp) _).alloc (by simp; omega) _).alloc (by simp; omega) _
  have hsz : ((((w.alloc (.cells (madeStr (xs.length + ys.length)) 9)).alloc (.cells #[.slice (some ⟨w.heap.size, 0, none⟩) 0 (xs.length + ys.length)] 111)).alloc (.cells #[.slice A xs.length c] 111)).alloc (.cells #[.slice B ys.length d] 111)).heap.size = w.heap.size + 4 := by simp
  have own0 : Own ((((w.alloc (.cells (madeStr (xs.length + ys.length)) 9)).alloc (.cells #[.slice (some ⟨w.heap.size, 0, none⟩) 0 (xs.length + ys.length)] 111)).alloc (.cells #[.slice A xs.length c] 111)).alloc (.cells #[.slice B ys.length d] 111)) w.heap.size (.slice (some ⟨w.heap.size, 0, none⟩) 0 (xs.length + ys.length)) [] :=
    (((World.ownsRow_made w (madeStr (xs.length + ys.length)) (xs.length + ys.length) (Nat.le_refl _) (by unfold maxLen; omega) (by rw [size_madeStr]; omega)).alloc _).alloc _).alloc _
  have bO : Boxed ((((w.alloc (.cells (madeStr (xs.length + ys.length)) 9)).alloc (.cells #[.slice (some ⟨w.heap.size, 0, none⟩) 0 (xs.length + ys.length)] 111)).alloc (.cells #[.slice A xs.length c] 111)).alloc (.cells #[.slice B ys.length d] 111)) (w.heap.size + 1) 111 (.slice (some ⟨w.heap.size, 0, none⟩) 0 (xs.length + ys.length)) := by
    have := Boxed.new (w.alloc (.cells (madeStr (xs.length + ys.length)) 9)) 111 (.slice (some ⟨w.heap.size, 0, none⟩) 0 (xs.length + ys.length))
    rw [World.size_alloc] at this
    exact (this.alloc _).alloc _
  have bA : Boxed ((((w.alloc (.cells (madeStr (xs.length + ys.length)) 9)).alloc (.cells #[.slice (some ⟨w.heap.size, 0, none⟩) 0 (xs.length + ys.length)] 111)).alloc (.cells #[.slice A xs.length c] 111)).alloc (.cells #[.slice B ys.length d] 111)) (w.heap.size + 1 + 1) 111 (.slice A xs.length c) := by
    have := Boxed.new ((w.alloc (.cells (madeStr (xs.length + ys.length)) 9)).alloc (.cells #[.slice (some ⟨w.heap.size, 0, none⟩) 0 (xs.length + ys.length)] 111)) 111 (.slice A xs.length c)
    rw [World.size_alloc, World.size_alloc] at this
    exact this.alloc _
  have bB : Boxed ((((w.alloc (.cells (madeStr (xs.length + ys.length)) 9)).alloc (.cells #[.slice (some ⟨w.heap.size, 0, none⟩) 0 (xs.length + ys.length)] 111)).alloc (.cells #[.slice A xs.length c] 111)).alloc (.cells #[.slice B ys.length d] 111)) (w.heap.size + 1 + 1 + 1) 111 (.slice B ys.length d) := by
    have := Boxed.new (((w.alloc (.cells (madeStr (xs.length + ys.length)) 9)).alloc (.cells #[.slice (some ⟨w.heap.size, 0, none⟩) 0 (xs.length + ys.length)] 111)).alloc (.cells #[.slice A xs.length c] 111)) 111 (.slice B ys.length d)
    rw [World.size_alloc, World.size_alloc, World.size_alloc] at this
    exact this
  generalize ((((w.alloc (.cells (madeStr (xs.length + ys.length)) 9)).alloc (.cells #[.slice (some ⟨w.heap.size, 0, none⟩) 0 (xs.length + ys.length)] 111)).alloc (.cells #[.slice A xs.length c] 111)).alloc (.cells #[.slice B ys.length d] 111)) = W0 at *
  obtain ⟨i0, hi, hz0, hz1, hz2⟩ := info_parts Tryz.infoStr
  refine wpIn_rangeFunc_ownG rfl (by omega) (gf := 115) (lb := #[.pointer (some ⟨w.heap.size + 1 + 1, 0, none⟩), .pointer (some ⟨w.heap.size + 1 + 1 + 1, 0, none⟩)]) rfl trivial (enters_of Tryz.func115 (by kernel_rfl) rfl)
    (beside_stops 5 (w.heap.size + 1 + 1) (w.heap.size + 1 + 1 + 1) w.heap.size A B c d xs ys W0 (by omega) (by omega) (by omega) bA.cell bB.cell hc hd hcm hdm ((Lies.zero hl).below hB0) ((Lies.zero hm).below hB0)) belowK_t (belowK_b (by omega)) (Below.refl _ _) (fun _ => rfl)
    (fun (pre : List (Str × Int)) W => (∃ v, Boxed W (w.heap.size + 1) 111 v ∧ W.ownsRow w.heap.size 9 1 v (keysL pre).length (cellsOf (keysL pre)) ∧ True) ∧ Below w.heap.size w W)
    (fun _ _ _ => False)
    (OwnFrom.and (Own.from (holdsRow_own w.heap.size (w.heap.size + 1) 111 9 1 (fun (pre : List (Str × Int)) => (keysL pre).length) (fun (pre : List (Str × Int)) => cellsOf (keysL pre)) (fun _ _ => True)) _) (ownFrom_below (Nat.le_refl _) (by omega)))
    (fun _ _ _ _ _ hs _ _ => hs)
    ⟨⟨_, bO, own0, trivial⟩, hB0⟩
    (fun x => { tmps := #[.slice A xs.length c, .slice B ys.length d, undef, undef, .slice none 0 0, .pointer (some ⟨w.heap.size + 1, 0, none⟩), .string (S x.1), .slice A xs.length c, .int .i64 xs.length, .slice B ys.length d, .int .i64 ys.length, .int .i64 ((xs.length : Int) + ys.length), .slice (some ⟨w.heap.size, 0, none⟩) 0 (xs.length + ys.length), .slice A xs.length c, .slice B ys.length d, .func (.func 115) #[] #[.pointer (some ⟨w.heap.size + 1 + 1, 0, none⟩), .pointer (some ⟨w.heap.size + 1 + 1 + 1, 0, none⟩)], .string (S x.1), .int .i64 x.2, undef, undef, undef, undef, undef], defers := [] }) ?assign ?body ?done ?stop
  case assign =>
    intro l x W K hK
    unfold encP
    gi_wp2
    exact hK
  case body =>
    rintro l pre x W ⟨⟨v, hv, hrow, -⟩, hB⟩ hlt
    have hcl := hv.cell
    have hpl := keysL_len pre
    have HR := Lib.hid hrow
    have hp2 : (keysL pre).length < 900000 := by omega
    clear hrow hpl
    gi_wp2_with (gi_at_builtin; refine wpListIn_append_own _ rfl _ _ 111 rfl w.heap.size 9 i0 (.string { data := #[] }) 1 16 Tryz.underlying111 hi hz0 hz1 hz2 rfl (by decide) _ _ _ rfl (HR.out.alloc _) ⟨W.heap.size, 0, none⟩ 1 1 [.string (S x.1)] rfl rfl (cell_one_new _ _ _) (by simp [Value.oneCell']) (by unfold maxLen; omega) (by omega) (by have := hB.size; simp; omega) ?_; intro v' w1 hown' hgrow _; obtain ⟨g', cap', rfl⟩ := ownsRow_succ hown'; obtain ⟨hv1, hv2, hr2, hk2, hb2⟩ := hv.appended (by decide) HR.out hB.size (by omega) hown' hgrow; have hc1 := hv1.cell; have hf1 := hv1.frozen)
    exact ⟨hk2.from _, hb2, ⟨_, hv2, by rw [keysL_snoc]; exact own_snoc hr2, trivial⟩, hB.trans hb2⟩
  case done =>
    rintro D zs W hD rfl ⟨⟨v, hv, hrow, -⟩, hB⟩ hK
    have hcl := hv.cell
    gi_wp2
    refine ⟨by simp, .inl ⟨_, _, rfl, run_takeDeferred hK, ?_⟩⟩
    refine ⟨_, results_tmp rfl _ _ _, ?_⟩
    exact ⟨v, rfl, ownsRow_putObj hrow _ hK rfl, hB.trans (belowK_b (w := w) (Nat.le_refl _) W D _ _ (by omega) hK rfl rfl)⟩
  case stop =>
    rintro D c pre W _ _ h _
    exact h.elim

end Go.Proofs.YtdbohojncbeajaaGreat.R1

namespace Go.Proofs.YtdbohojncbeajaaGreat.R1
open Go.RowKit

set_option maxHeartbeats 400000 in
theorem Both_new (A B : Option Addr) (c d : Nat) (xs ys : List Str) (w : World) (hl : Lies w A xs) (hm : Lies w B ys) (hs : Srt xs) (hs' : Srt ys) (hc : xs.length ≤ c) (hd : ys.length ≤ d) (hcm : c ≤ maxLen) (hdm : d ≤ maxLen) (hn : xs.length ≤ 300000) (hn' : ys.length ≤ 300000) :
    Calls Tryz.prog 43 #[.slice A xs.length c, .slice B ys.length d] w (RetO w (bothL xs ys)) := by
  have HE : Hid (keysL (be xs ys) = bothL xs ys) := be_both hs hs'
  clear hs hs'
  go_enter Tryz.func43, Tryz.ntmps43
  go_wp2_with fail
  refine (with_new A B c d xs ys w hl hm hc hd hcm hdm (by omega) (by omega)).mono ?_
  rintro e w' hr
  rw [HE.out] at hr
  obtain ⟨v, rfl, h1, h2⟩ := hr
  go_wp2
  go_ret
  exact ⟨v, rfl, h1, h2⟩
end Go.Proofs.YtdbohojncbeajaaGreat.R1
