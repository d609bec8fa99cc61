/- What beside gives: two rows gone through together. No condition but that the slices read as strings. -/
import Derived.RangeFuncNested
import Derived.RangeFuncBound
import Derived.RangeFuncCalls
import Derived.RangeFuncLeaves
import Derived.Shelf.Abstract
import Derived.Shelf.RegionOpen
import Derived.OwnWalkIn
import Derived.TacticsInMore
import Derived.LoopNIn
import Derived.LoopIn
import Derived.Sort.QuietIn
import Derived.Test.YtmemagokddfohaaLowest
import Derived.Test.YtmemagokddfohaaBe
namespace Go.Proofs.Ytmemagokddfohaa
open Go.RowKit Go.Shelf

attribute [local go_sem] Oper.semAt_some

/-- The strings lie below block n₀. -/
def Lies0 (n₀ : Nat) (w : World) (A : Option Addr) (xs : List Str) : Prop :=
  xs = [] ∨ ∃ b off, A = some ⟨b, off, none⟩ ∧ b < n₀ ∧ ∀ i x, xs[i]? = some x → w.cell? ⟨b, off + i, none⟩ = some (.string (S x))

theorem Lies.zero {w : World} {A : Option Addr} {xs : List Str} (h : Lies w A xs) : Lies0 w.heap.size w A xs := h
theorem Lies0.lies {n₀ : Nat} {w : World} {A : Option Addr} {xs : List Str} (h : Lies0 n₀ w A xs) (hn : n₀ ≤ w.heap.size) : Lies w A xs := by
  rcases h with h | ⟨b, off, hA, hb, h⟩
  · exact .inl h
  · exact .inr ⟨b, off, hA, Nat.lt_of_lt_of_le hb hn, h⟩
theorem Lies0.below {n₀ : Nat} {w w' : World} {A : Option Addr} {xs : List Str} (h : Lies0 n₀ w A xs) (hb : Below n₀ w w') : Lies0 n₀ w' A xs := by
  rcases h with h | ⟨b, off, hA, hlt, h⟩
  · exact .inl h
  · exact .inr ⟨b, off, hA, hlt, fun i x hx => (hb.cell (p := ⟨b, off + i, none⟩) hlt).trans (h i x hx)⟩
theorem Lies0.drewN {n₀ : Nat} {w : World} {A : Option Addr} {xs : List Str} (h : Lies0 n₀ w A xs) (n : Nat) : Lies0 n₀ (w.drewN n) A xs := h

/-- A slice without its first. -/
theorem Lies0.tail {n₀ : Nat} {w : World} {A : Option Addr} {x : Str} {xr : List Str} (h : Lies0 n₀ w A (x :: xr)) :
    ∃ b off, A = some ⟨b, off, none⟩ ∧ Lies0 n₀ w (some ⟨b, off + 1, none⟩) xr := by
  rcases h with h | ⟨b, off, hA, hlt, h⟩
  · cases h
  · refine ⟨b, off, hA, .inr ⟨b, off + 1, rfl, hlt, fun i y hy => ?_⟩⟩
    have := h (i + 1) y (by simpa using hy)
    rwa [show off + 1 + i = off + (i + 1) by omega]

theorem abides_drewN {J : List (Str × Int) → World → Prop} {B : Nat} (hJ : AbidesFrom B J) {pre : List (Str × Int)} {w : World} (n : Nat) (h : J pre w) : J pre (w.drewN n) :=
  hJ pre w (w.drewN n) none h ⟨rfl, rfl, rfl, Nat.le_refl _, fun _ _ _ => rfl⟩ (fun _ e => by cases e)

/-- How many are still to come: for the loop's measure. -/
def lenV : Value → Nat | .slice _ n _ => n | _ => 0

set_option maxRecDepth 100000 in
set_option maxHeartbeats 2000000 in
theorem beside1_in (n : Nat) (l Ba Bb n₀ : Nat) (A B : Option Addr) (c d : Nat) (xs ys : List Str) (J Jx : List (Str × Int) → World → Prop) (W : World) (hJ : AbidesFrom W.heap.size J)
    (hY : ∀ pre x W1, J pre W1 → pre.length < xs.length + ys.length → YieldAt Fence.wide (n - 1) Try.prog l #[.string (S x.1), .int .i64 x.2] W1 fun e W' =>
      (e = .returned (.bool true) ∧ J (pre ++ [x]) W' ∧ Below n₀ W1 W') ∨ (e = .returned (.bool false) ∧ Jx (pre ++ [x]) W'))
    (hn₀ : n₀ ≤ W.heap.size) (hBa : W.cell? ⟨Ba, 0, none⟩ = some (.slice A xs.length c)) (hBb : W.cell? ⟨Bb, 0, none⟩ = some (.slice B ys.length d)) (hc : xs.length ≤ c) (hd : ys.length ≤ d) (hcm : c ≤ maxLen) (hdm : d ≤ maxLen)
    (hl : Lies0 n₀ W A xs) (hm : Lies0 n₀ W B ys) (h0 : J [] W) :
    CallsIn Fence.wide n Try.prog 36 #[.func (.yield l) #[] #[], .pointer (some ⟨Ba, 0, none⟩), .pointer (some ⟨Bb, 0, none⟩)] W fun e W' => (∃ v, e = .returned v) ∧
      ((∃ zs, zs = be xs ys ∧ J zs W') ∨ (∃ pre, pre <+: be xs ys ∧ Jx pre W')) := by
  unfold maxLen at hcm hdm
  refine callsIn_of_wp Try.func36 rfl trivial ?_ rfl
  simp only [Try.ntmps36, List.size_toArray, List.length_cons, List.length_nil, Nat.reduceAdd, Nat.reduceSub, Array.replicate_succ, Array.replicate_zero, List.push_toArray, List.append_toArray, List.nil_append, List.cons_append]
  gi_wp2
  gi_quiet (fail)
  gi_wp2
  gi_loopw [4, 5] (fun u v wr => ∃ (pre : List (Str × Int)) (xr yr : List Str) (A' B' : Option Addr) (c' d' : Nat), u = .slice A' xr.length c' ∧ v = .slice B' yr.length d' ∧ xr.length ≤ c' ∧ c' ≤ 2 ^ 63 - 1 ∧ yr.length ≤ d' ∧ d' ≤ 2 ^ 63 - 1 ∧ Lies0 n₀ wr A' xr ∧ Lies0 n₀ wr B' yr ∧ Hid (be xs ys = pre ++ be xr yr) ∧ J pre wr ∧ n₀ ≤ wr.heap.size)
    (fun u v _ => lenV u + lenV v)
  case atStart => exact ⟨[], xs, ys, A, B, c, d, rfl, rfl, hc, hcm, hd, hdm, hl, hm, rfl, abides_drewN hJ _ h0, hn₀⟩
  case round =>
    obtain ⟨pre, xr, yr, A', B', c', d', rfl, rfl, hc1, hc2, hd1, hd2, hl1, hm1, h1, hJ1, hn1⟩ := hrel
    clear hBa hBb hl hm h0 hc hd hcm hdm
    have hplen : ∀ x r, be xr yr = x :: r → pre.length < xs.length + ys.length := by
      intro x r e
      have := be_len xs ys
      rw [h1.out, e] at this
      simp at this
      omega
    cases xr with
    | nil =>
      cases yr with
      | nil =>
        gi_wp2
        go_end0
        exact ⟨⟨_, rfl⟩, .inl ⟨pre, by rw [h1.out, be_nil]; simp, hJ1⟩⟩
      | cons y yr =>
        have hpl := hplen _ _ (be_right y yr)
        have H1 : Hid (be xs ys = (pre ++ [(y, 1)]) ++ be [] yr) := by
          show be xs ys = _
          rw [h1.out, show _ = _ from (be_right y yr)]; simp
        clear hplen h1
        obtain ⟨b', off', rfl, ht'⟩ := hm1.tail
        have q2 : yr.length + 1 ≤ d' := hd1
        gi_wp2_with fail
        refine ⟨trivial, fun h => absurd h (by simp [Fence.wide]), (callsIn_wide.2 (lowest_nil1 A' _ c' d' (y :: yr) y wr (hm1.lies hn1) rfl)).mono ?_⟩
        rintro e w' ⟨rfl, q, rfl⟩
        obtain ⟨fn, tmps, assign, body, hy, hR⟩ := hY pre (y, 1) (wr.drewN q) (abides_drewN hJ q hJ1) hpl
        dsimp only at hy
        clear hY
        by_cases hdd : d' = 1
        all_goals
          gi_wp2
          refine ⟨fun h => absurd h (by simp [Fence.wide]), hR.mono ?_⟩
          rintro e W3 (⟨rfl, hJ3, hk3⟩ | ⟨rfl, hJx3⟩)
          · gi_wp2
            go_roundw
            case rel =>
              refine ⟨pre ++ [(y, 1)], [], yr, _, _, _, _, rfl, rfl, ?_, ?_, ?_, ?_, ?_, ?_, H1, hJ3, Nat.le_trans hn1 hk3.size⟩
              all_goals first
                | exact (Or.inl rfl)
                | exact (ht'.drewN q).below hk3
                | (refine Or.inl (List.eq_nil_of_length_eq_zero ?_); omega)
                | (simp only [List.length_nil]; omega)
                | (simp only [List.length_cons]; omega)
                | omega
            case measure => first | (simp [lenV]; done) | (simp [lenV]; omega)
          · gi_wp2
            refine bodyPost_ret (results_none rfl _ _ _) rfl ?_
            exact ⟨⟨_, rfl⟩, .inr ⟨pre ++ [(y, 1)], ⟨_, H1.out.symm⟩, hJx3⟩⟩
    | cons x xr =>
      cases yr with
      | nil =>
        have hpl := hplen _ _ (be_left x xr)
        have H1 : Hid (be xs ys = (pre ++ [(x, 0)]) ++ be xr []) := by
          show be xs ys = _
          rw [h1.out, show _ = _ from (be_left x xr)]; simp
        clear hplen h1
        obtain ⟨b, off, rfl, ht⟩ := hl1.tail
        have q1 : xr.length + 1 ≤ c' := hc1
        gi_wp2_with fail
        refine ⟨trivial, fun h => absurd h (by simp [Fence.wide]), (callsIn_wide.2 (lowest_nil2 _ B' c' d' (x :: xr) x wr (hl1.lies hn1) rfl)).mono ?_⟩
        rintro e w' ⟨rfl, q, rfl⟩
        obtain ⟨fn, tmps, assign, body, hy, hR⟩ := hY pre (x, 0) (wr.drewN q) (abides_drewN hJ q hJ1) hpl
        dsimp only at hy
        clear hY
        by_cases hcc : c' = 1
        all_goals
          gi_wp2
          refine ⟨fun h => absurd h (by simp [Fence.wide]), hR.mono ?_⟩
          rintro e W3 (⟨rfl, hJ3, hk3⟩ | ⟨rfl, hJx3⟩)
          · gi_wp2
            go_roundw
            case rel =>
              refine ⟨pre ++ [(x, 0)], xr, [], _, _, _, _, rfl, rfl, ?_, ?_, ?_, ?_, ?_, ?_, H1, hJ3, Nat.le_trans hn1 hk3.size⟩
              all_goals first
                | exact (Or.inl rfl)
                | exact (ht.drewN q).below hk3
                | (refine Or.inl (List.eq_nil_of_length_eq_zero ?_); omega)
                | (simp only [List.length_nil]; omega)
                | (simp only [List.length_cons]; omega)
                | omega
            case measure => first | (simp [lenV]; done) | (simp [lenV]; omega)
          · gi_wp2
            refine bodyPost_ret (results_none rfl _ _ _) rfl ?_
            exact ⟨⟨_, rfl⟩, .inr ⟨pre ++ [(x, 0)], ⟨_, H1.out.symm⟩, hJx3⟩⟩
      | cons y yr =>
        rcases str_tri x y with hxy | hxy | hxy
        · have hpl := hplen _ _ (be_lt xr yr hxy)
          have H1 : Hid (be xs ys = (pre ++ [(x, 0)]) ++ be xr (y :: yr)) := by
            show be xs ys = _
            rw [h1.out, show _ = _ from (be_lt xr yr hxy)]; simp
          clear hplen h1
          obtain ⟨b, off, rfl, ht⟩ := hl1.tail
          have q1 : xr.length + 1 ≤ c' := hc1
          obtain ⟨b', off', rfl, ht'⟩ := hm1.tail
          have q2 : yr.length + 1 ≤ d' := hd1
          have HXY := Lib.hid hxy
          clear hxy ht'
          gi_wp2_with fail
          refine ⟨trivial, fun h => absurd h (by simp [Fence.wide]), (callsIn_wide.2 (lowest_lt _ _ c' d' (x :: xr) (y :: yr) x y wr (hl1.lies hn1) (hm1.lies hn1) rfl rfl HXY.out)).mono ?_⟩
          rintro e w' ⟨rfl, q, rfl⟩
          obtain ⟨fn, tmps, assign, body, hy, hR⟩ := hY pre (x, 0) (wr.drewN q) (abides_drewN hJ q hJ1) hpl
          dsimp only at hy
          clear hY
          by_cases hcc : c' = 1
          all_goals
            gi_wp2
            refine ⟨fun h => absurd h (by simp [Fence.wide]), hR.mono ?_⟩
            rintro e W3 (⟨rfl, hJ3, hk3⟩ | ⟨rfl, hJx3⟩)
            · gi_wp2
              go_roundw
              case rel =>
                refine ⟨pre ++ [(x, 0)], xr, (y :: yr), _, _, _, _, rfl, rfl, ?_, ?_, ?_, ?_, ?_, ?_, H1, hJ3, Nat.le_trans hn1 hk3.size⟩
                all_goals first
                  | exact (hm1.drewN q).below hk3
                  | exact (ht.drewN q).below hk3
                  | (refine Or.inl (List.eq_nil_of_length_eq_zero ?_); omega)
                  | (simp only [List.length_nil]; omega)
                  | (simp only [List.length_cons]; omega)
                  | omega
              case measure => first | (simp [lenV]; done) | (simp [lenV]; omega)
            · gi_wp2
              refine bodyPost_ret (results_none rfl _ _ _) rfl ?_
              exact ⟨⟨_, rfl⟩, .inr ⟨pre ++ [(x, 0)], ⟨_, H1.out.symm⟩, hJx3⟩⟩
        · subst hxy
          have hpl := hplen _ _ (be_eq x xr yr)
          have H1 : Hid (be xs ys = (pre ++ [(x, 2)]) ++ be xr yr) := by
            show be xs ys = _
            rw [h1.out, show _ = _ from (be_eq x xr yr)]; simp
          clear hplen h1
          obtain ⟨b, off, rfl, ht⟩ := hl1.tail
          have q1 : xr.length + 1 ≤ c' := hc1
          obtain ⟨b', off', rfl, ht'⟩ := hm1.tail
          have q2 : yr.length + 1 ≤ d' := hd1
          gi_wp2_with fail
          refine ⟨trivial, fun h => absurd h (by simp [Fence.wide]), (callsIn_wide.2 (lowest_eq _ _ c' d' (x :: xr) (x :: yr) x wr (hl1.lies hn1) (hm1.lies hn1) rfl rfl)).mono ?_⟩
          rintro e w' ⟨rfl, q, rfl⟩
          obtain ⟨fn, tmps, assign, body, hy, hR⟩ := hY pre (x, 2) (wr.drewN q) (abides_drewN hJ q hJ1) hpl
          dsimp only at hy
          clear hY
          by_cases hcc : c' = 1 <;> by_cases hdd : d' = 1
          all_goals
            gi_wp2
            refine ⟨fun h => absurd h (by simp [Fence.wide]), hR.mono ?_⟩
            rintro e W3 (⟨rfl, hJ3, hk3⟩ | ⟨rfl, hJx3⟩)
            · gi_wp2
              go_roundw
              case rel =>
                refine ⟨pre ++ [(x, 2)], xr, yr, _, _, _, _, rfl, rfl, ?_, ?_, ?_, ?_, ?_, ?_, H1, hJ3, Nat.le_trans hn1 hk3.size⟩
                all_goals first
                  | exact (ht.drewN q).below hk3
                  | (refine Or.inl (List.eq_nil_of_length_eq_zero ?_); omega)
                  | exact (ht'.drewN q).below hk3
                  | (refine Or.inl (List.eq_nil_of_length_eq_zero ?_); omega)
                  | (simp only [List.length_nil]; omega)
                  | (simp only [List.length_cons]; omega)
                  | omega
              case measure => first | (simp [lenV]; done) | (simp [lenV]; omega)
            · gi_wp2
              refine bodyPost_ret (results_none rfl _ _ _) rfl ?_
              exact ⟨⟨_, rfl⟩, .inr ⟨pre ++ [(x, 2)], ⟨_, H1.out.symm⟩, hJx3⟩⟩
        · have hpl := hplen _ _ (be_gt xr yr hxy)
          have H1 : Hid (be xs ys = (pre ++ [(y, 1)]) ++ be (x :: xr) yr) := by
            show be xs ys = _
            rw [h1.out, show _ = _ from (be_gt xr yr hxy)]; simp
          clear hplen h1
          obtain ⟨b, off, rfl, ht⟩ := hl1.tail
          have q1 : xr.length + 1 ≤ c' := hc1
          obtain ⟨b', off', rfl, ht'⟩ := hm1.tail
          have q2 : yr.length + 1 ≤ d' := hd1
          have HXY := Lib.hid hxy
          clear hxy ht
          gi_wp2_with fail
          refine ⟨trivial, fun h => absurd h (by simp [Fence.wide]), (callsIn_wide.2 (lowest_gt _ _ c' d' (x :: xr) (y :: yr) x y wr (hl1.lies hn1) (hm1.lies hn1) rfl rfl HXY.out)).mono ?_⟩
          rintro e w' ⟨rfl, q, rfl⟩
          obtain ⟨fn, tmps, assign, body, hy, hR⟩ := hY pre (y, 1) (wr.drewN q) (abides_drewN hJ q hJ1) hpl
          dsimp only at hy
          clear hY
          by_cases hdd : d' = 1
          all_goals
            gi_wp2
            refine ⟨fun h => absurd h (by simp [Fence.wide]), hR.mono ?_⟩
            rintro e W3 (⟨rfl, hJ3, hk3⟩ | ⟨rfl, hJx3⟩)
            · gi_wp2
              go_roundw
              case rel =>
                refine ⟨pre ++ [(y, 1)], (x :: xr), yr, _, _, _, _, rfl, rfl, ?_, ?_, ?_, ?_, ?_, ?_, H1, hJ3, Nat.le_trans hn1 hk3.size⟩
                all_goals first
                  | exact (hl1.drewN q).below hk3
                  | exact (ht'.drewN q).below hk3
                  | (refine Or.inl (List.eq_nil_of_length_eq_zero ?_); omega)
                  | (simp only [List.length_nil]; omega)
                  | (simp only [List.length_cons]; omega)
                  | omega
              case measure => first | (simp [lenV]; done) | (simp [lenV]; omega)
            · gi_wp2
              refine bodyPost_ret (results_none rfl _ _ _) rfl ?_
              exact ⟨⟨_, rfl⟩, .inr ⟨pre ++ [(y, 1)], ⟨_, H1.out.symm⟩, hJx3⟩⟩
end Go.Proofs.Ytmemagokddfohaa
