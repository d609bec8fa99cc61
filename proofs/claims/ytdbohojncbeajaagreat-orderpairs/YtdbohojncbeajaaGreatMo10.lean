/- What value.byTick, slices.CompareFunc with it, cmp.Or of two, cmp.Compare of numbers do. No condition but that the ticks lie in memory. The library contracts that this program can use, laid at its numbers. No condition. What strings.Compare, join.byTick, join.byTicks, slices.Compare of texts, join.byWriter do. No condition but that what they take lies in memory. Lines of values at marks where they lie; what join.lower and split do. No condition but that what they take lies in memory. -/
import Derived.Test.YtdbohojncbeajaaGreatMo09
import Derived.Shelf.Small.Strs
import Derived.Ground.Names2Prog
import Derived.Shelf.Slices.Clone
import Derived.Test.YtdbohojncbeajaaGreatProg
import Derived.Test.YtdbohojncbeajaaGreatMo05
namespace Go.Proofs.YtdbohojncbeajaaGreat.V4
open Go.RowKit
open C3 (Tk In cmpI cmpI_lt cmpI_gt cmpI_eq compare_any belAl allocB)

set_option maxHeartbeats 400000 in
theorem isNaNU_any (x : Int) (w : World) : Calls Tryz.prog 118 #[.int .u64 x] w fun e w' => e = .returned (.bool false) ∧ w = w' := by
  go_enter Tryz.func118, Tryz.ntmps118
  go_wp2
  go_ret
  exact ⟨rfl, rfl⟩

set_option maxHeartbeats 400000 in
theorem compareU_any (x y : Int) (w : World) : Calls Tryz.prog 91 #[.int .u64 x, .int .u64 y] w fun e w' => e = .returned (.int .i64 (cmpI x y)) ∧ w = w' := by
  rcases Int.lt_trichotomy x y with h | h | h
  · rw [cmpI_lt h]
    go_enter Tryz.func91, Tryz.ntmps91
    go_wp2_with (go_at_call 118; refine (isNaNU_any _ _).mono ?_; rintro e w' ⟨rfl, rfl⟩)
    go_ret
    exact ⟨rfl, rfl⟩
  · subst h
    rw [cmpI_eq]
    go_enter Tryz.func91, Tryz.ntmps91
    go_wp2_with (go_at_call 118; refine (isNaNU_any _ _).mono ?_; rintro e w' ⟨rfl, rfl⟩)
    go_ret
    exact ⟨rfl, rfl⟩
  · rw [cmpI_gt h]
    have h1 : ¬ x < y := by omega
    go_enter Tryz.func91, Tryz.ntmps91
    go_wp2_with (go_at_call 118; refine (isNaNU_any _ _).mono ?_; rintro e w' ⟨rfl, rfl⟩)
    go_ret
    exact ⟨rfl, rfl⟩

/-- The first of two that is not 0. -/
def orI (x y : Int) : Int := if x = 0 then y else x

set_option maxHeartbeats 400000 in
theorem or_any (b : Nat) (x y : Int) (w : World) (h0 : w.cell? ⟨b, 0, none⟩ = some (.int .i64 x)) (h1 : w.cell? ⟨b, 1, none⟩ = some (.int .i64 y)) :
    Calls Tryz.prog 90 #[.slice (some ⟨b, 0, none⟩) 2 2] w fun e w' => e = .returned (.int .i64 (orI x y)) ∧ w = w' := by
  go_enter Tryz.func90, Tryz.ntmps90
  go_wp2_with fail
  go_loopw [8] (fun iv wr => ∃ k : Nat, k ≤ 2 ∧ iv = .int .i64 k ∧ wr = w ∧ Hid (1 ≤ k → x = 0) ∧ Hid (2 ≤ k → y = 0)) (fun iv _ => 2 - (intOf iv).toNat)
  case atStart => exact ⟨0, Nat.zero_le _, rfl, rfl, fun h => by omega, fun h => by omega⟩
  case round =>
    obtain ⟨k, hk, rfl, rfl, g0, g1⟩ := hrel
    rcases (by omega : k = 0 ∨ k = 1 ∨ k = 2) with rfl | rfl | rfl
    · by_cases hx : x = 0
      · have k1 : (x != 0) = false := by simp [hx]
        go_wp2_with fail
        go_roundw
        case rel => exact ⟨1, by omega, by go_num, trivial, fun _ => hx, fun h => by omega⟩
        case measure => simp [intOf]
      · have k1 : (x != 0) = true := by simp [hx]
        go_wp2_with fail
        go_ret
        exact ⟨by rw [orI, if_neg hx]; rfl, rfl⟩
    · have hx : x = 0 := g0.out (by omega)
      by_cases hy : y = 0
      · have k1 : (y != 0) = false := by simp [hy]
        have HX := Lib.hid hx
        clear hx
        go_wp2_with fail
        go_roundw
        case rel => exact ⟨2, by omega, by go_num, trivial, fun _ => HX.out, fun _ => hy⟩
        case measure => simp [intOf]
      · have k1 : (y != 0) = true := by simp [hy]
        have HX := Lib.hid hx
        clear hx
        go_wp2_with fail
        go_ret
        exact ⟨by rw [orI, if_pos HX.out]; rfl, rfl⟩
    · have HX := Lib.hid (g0.out (by omega))
      have HY := Lib.hid (g1.out (by omega))
      go_wp2_with fail
      go_ret
      exact ⟨by rw [orI, if_pos HX.out, HY.out]; rfl, rfl⟩

/-- By Who, then by N. -/
def tickI (x y : Tk) : Int := orI (cmpI x.k y.k) (cmpI x.n y.n)

set_option maxHeartbeats 1000000 in
theorem byTick_any (xk xn yk yn : Int) (w : World) : Calls Tryz.prog 114 #[.agg #[.int .i64 xk, .int .u64 xn], .agg #[.int .i64 yk, .int .u64 yn]] w (RetV w (.int .i64 (tickI ⟨xk, xn⟩ ⟨yk, yn⟩))) := by
  obtain ⟨p, hp⟩ : ∃ p, cmpI xk yk = p := ⟨_, rfl⟩
  obtain ⟨q, hq⟩ : ∃ q, cmpI xn yn = q := ⟨_, rfl⟩
  have HP := Lib.hid hp
  have HQ := Lib.hid hq
  have HR : Hid (tickI ⟨xk, xn⟩ ⟨yk, yn⟩ = orI p q) := by show tickI _ _ = _; unfold tickI; rw [← hp, ← hq]
  clear hp hq
  go_enter Tryz.func114, Tryz.ntmps114
  go_wp2_with fail
  have e0 : ((w.alloc (.cells #[.int .i64 xk, .int .u64 xn] 60)).alloc (.cells #[.int .i64 yk, .int .u64 yn] 60)).cell? ⟨w.heap.size, 0, none⟩ = some (.int .i64 xk) := by simp [World.cell?_alloc_past]
  have e1 : ((w.alloc (.cells #[.int .i64 xk, .int .u64 xn] 60)).alloc (.cells #[.int .i64 yk, .int .u64 yn] 60)).cell? ⟨w.heap.size, 1, none⟩ = some (.int .u64 xn) := by simp [World.cell?_alloc_past]
  have e2 : ((w.alloc (.cells #[.int .i64 xk, .int .u64 xn] 60)).alloc (.cells #[.int .i64 yk, .int .u64 yn] 60)).cell? ⟨w.heap.size + 1, 0, none⟩ = some (.int .i64 yk) := by simp
  have e3 : ((w.alloc (.cells #[.int .i64 xk, .int .u64 xn] 60)).alloc (.cells #[.int .i64 yk, .int .u64 yn] 60)).cell? ⟨w.heap.size + 1, 1, none⟩ = some (.int .u64 yn) := by simp
  have hB0 : Below w.heap.size w ((w.alloc (.cells #[.int .i64 xk, .int .u64 xn] 60)).alloc (.cells #[.int .i64 yk, .int .u64 yn] 60)) := belAl (belAl (Below.refl _ _))
  have hsz : w.heap.size + 2 ≤ ((w.alloc (.cells #[.int .i64 xk, .int .u64 xn] 60)).alloc (.cells #[.int .i64 yk, .int .u64 yn] 60)).heap.size := by simp
  have hs0 : w.heap.size < ((w.alloc (.cells #[.int .i64 xk, .int .u64 xn] 60)).alloc (.cells #[.int .i64 yk, .int .u64 yn] 60)).heap.size := by omega
  have hs1 : w.heap.size + 1 < ((w.alloc (.cells #[.int .i64 xk, .int .u64 xn] 60)).alloc (.cells #[.int .i64 yk, .int .u64 yn] 60)).heap.size := by omega
  generalize ((w.alloc (.cells #[.int .i64 xk, .int .u64 xn] 60)).alloc (.cells #[.int .i64 yk, .int .u64 yn] 60)) = W0 at *
  go_region_held3 (fun w' => w'.cell? ⟨w.heap.size, 0, none⟩ = some (.int .i64 xk) ∧ w'.cell? ⟨w.heap.size, 1, none⟩ = some (.int .u64 xn) ∧ w'.cell? ⟨w.heap.size + 1, 0, none⟩ = some (.int .i64 yk) ∧ w'.cell? ⟨w.heap.size + 1, 1, none⟩ = some (.int .u64 yn))
    (first
      | with_reducible exact ⟨e0, e1, e2, e3⟩
      | (refine ⟨?_, ?_, ?_, ?_⟩ <;> go_simp))
    (first
      | (go_at_call 120; refine (compare_any xk yk _).mono ?_; rintro e w4 ⟨rfl, rfl⟩; rw [HP.out])
      | (go_at_call 91; refine (compareU_any xn yn _).mono ?_; rintro e w4 ⟨rfl, rfl⟩; rw [HQ.out])
      | (go_at_call 90; refine (or_any _ p q _ (by simp) (by simp)).mono ?_; rintro e w4 ⟨rfl, rfl⟩))
  all_goals (
    go_wp2_with fail
    go_ret
    exact ⟨by rw [HR.out]; rfl, (belAl hB0).drew⟩)

theorem tickI_lt {x y : Tk} (h : x.k < y.k) : tickI x y = -1 := by unfold tickI; rw [cmpI_lt h]; rfl
theorem tickI_gt {x y : Tk} (h : y.k < x.k) : tickI x y = 1 := by unfold tickI; rw [cmpI_gt h]; rfl
theorem tickI_k {x y : Tk} (h : x.k = y.k) : tickI x y = cmpI x.n y.n := by unfold tickI; rw [h, cmpI_eq]; rfl
theorem tickI_ne {x y : Tk} {a b : List Tk} {i : Nat} (hx : a[i]? = some x) (hy : b[i]? = some y) (h : tickI x y ≠ 0) : decide (0 ≤ tickI x y) = !aheadC (a.drop i) (b.drop i) := by
  rw [aheadC_drop hx hy]
  rcases Int.lt_trichotomy x.k y.k with hk | hk | hk
  · have h1 : ¬ x.k = y.k := by omega
    rw [tickI_lt hk, if_neg h1, decide_eq_true hk]; rfl
  · rw [tickI_k hk] at h ⊢
    rw [if_pos hk]
    rcases Int.lt_trichotomy x.n y.n with hn | hn | hn
    · have h1 : ¬ x.n = y.n := by omega
      rw [cmpI_lt hn, if_neg h1, decide_eq_true hn]; rfl
    · exact absurd (by rw [hn, cmpI_eq]) h
    · have h1 : ¬ x.n = y.n := by omega
      have h2 : ¬ x.n < y.n := by omega
      rw [cmpI_gt hn, if_neg h1, decide_eq_false h2]; rfl
  · have h1 : ¬ x.k = y.k := by omega
    have h2 : ¬ x.k < y.k := by omega
    rw [tickI_gt hk, if_neg h1, decide_eq_false h2]; rfl
theorem tickI_eq {x y : Tk} {a b : List Tk} {i : Nat} (hx : a[i]? = some x) (hy : b[i]? = some y) (h : tickI x y = 0) : aheadC (a.drop i) (b.drop i) = aheadC (a.drop (i + 1)) (b.drop (i + 1)) := by
  rw [aheadC_drop hx hy]
  rcases Int.lt_trichotomy x.k y.k with hk | hk | hk
  · rw [tickI_lt hk] at h; omega
  · rw [tickI_k hk] at h
    rw [if_pos hk]
    rcases Int.lt_trichotomy x.n y.n with hn | hn | hn
    · rw [cmpI_lt hn] at h; omega
    · rw [if_pos hn]
    · rw [cmpI_gt hn] at h; omega
  · rw [tickI_gt hk] at h; omega

set_option maxHeartbeats 1000000 in
theorem compareFunc_any (A A' : Option Addr) (c c' : Nat) (l l' : List Tk) (w : World) (h : In w A c l) (h' : In w A' c' l') :
    Calls Tryz.prog 100 #[.slice A l.length c, .slice A' l'.length c', .func (.func 114) #[] #[]] w (C3.RetIx w (!aheadC l l')) := by
  obtain ⟨hl, hcap, htop, -⟩ := h
  obtain ⟨hl', hcap', htop', -⟩ := h'
  have hlm : l.length ≤ 9223372036854775807 := by unfold maxLen at htop; omega
  have hlm' : l'.length ≤ 9223372036854775807 := by unfold maxLen at htop'; omega
  clear hcap htop hcap' htop'
  go_enter Tryz.func100, Tryz.ntmps100
  go_wp2_with fail
  go_loopw [13] (fun iv wr => ∃ k : Nat, k ≤ l.length ∧ k ≤ l'.length ∧ iv = .int .i64 k ∧ Hid (aheadC l l' = aheadC (l.drop k) (l'.drop k)) ∧ Below w.heap.size w wr) (fun iv _ => l.length - (intOf iv).toNat)
  case atStart => exact ⟨0, Nat.zero_le _, Nat.zero_le _, rfl, rfl, Below.refl _ _⟩
  case round =>
    obtain ⟨k, hk, hk', rfl, h0, hbw⟩ := hrel
    by_cases hlt : k < l.length
    · obtain ⟨b, off, rfl, hb, hc⟩ := (hl.below hbw).get hlt
      obtain ⟨x, hx⟩ : ∃ x, l[k]? = some x := ⟨_, List.getElem?_eq_getElem hlt⟩
      obtain ⟨hc0, hc1⟩ := hc k x hx
      have HX := Lib.hid hx
      clear hx hc hl
      obtain ⟨xk, xn⟩ := x
      dsimp only at hc0 hc1
      by_cases hlt' : k < l'.length
      · obtain ⟨b', off', rfl, hb', hc'⟩ := (hl'.below hbw).get hlt'
        obtain ⟨y, hy⟩ : ∃ y, l'[k]? = some y := ⟨_, List.getElem?_eq_getElem hlt'⟩
        obtain ⟨hd0, hd1⟩ := hc' k y hy
        have HY := Lib.hid hy
        clear hy hc' hl'
        obtain ⟨yk, yn⟩ := y
        dsimp only at hd0 hd1
        have hbb : b < wr.heap.size := World.block_lt_of_cell? wr _ hc0
        have hbb' : b' < wr.heap.size := World.block_lt_of_cell? wr _ hd0
        have d1 : ¬ (l'.length ≤ k) := by omega
        obtain ⟨q, hq⟩ : ∃ q, tickI ⟨xk, xn⟩ ⟨yk, yn⟩ = q := ⟨_, rfl⟩
        have HQ := Lib.hid hq
        clear hq
        have f0 : (wr.alloc (.cells #[.int .i64 xk, .int .u64 xn] 60)).cell? ⟨b', off' + k * 2, none⟩ = some (.int .i64 yk) := (World.cell?_alloc_past _ _ _ hbb').trans hd0
        have f1 : (wr.alloc (.cells #[.int .i64 xk, .int .u64 xn] 60)).cell? ⟨b', off' + k * 2 + 1, none⟩ = some (.int .u64 yn) := (World.cell?_alloc_past _ _ _ hbb').trans hd1
        go_wp2_with fail
        refine (byTick_any xk xn yk yn _).mono ?_
        rintro e w' ⟨rfl, hb2⟩
        rw [HQ.out]
        have hb3 : Below w.heap.size w w' := hbw.trans (((belAl (belAl (Below.refl _ _))).trans (hb2.mono (by simp; omega))).mono hbw.size)
        by_cases hq0 : q = 0
        · have k0 : (q != 0) = false := by simp [hq0]
          clear hb2
          go_wp2_with fail
          go_roundw
          case rel => exact ⟨k + 1, by omega, by omega, by go_num, by show _ = _; rw [h0.out]; exact tickI_eq HX.out HY.out (HQ.out.trans hq0), hb3⟩
          case measure => simp [intOf]; omega
        · have k0 : (q != 0) = true := by simp [hq0]
          clear hb2
          go_wp2_with fail
          go_ret
          refine ⟨_, rfl, ?_, hb3⟩
          rw [h0.out, ← tickI_ne HX.out HY.out (by rw [HQ.out]; exact hq0), HQ.out]
      · have d1 : l'.length ≤ k := by omega
        have HNL : Hid (¬ l.length < l'.length) := by show ¬ _; omega
        go_wp2_with fail
        go_ret
        refine ⟨_, rfl, ?_, belAl hbw⟩
        rw [h0.out, aheadC_end (.inr d1) hk hk', decide_eq_false HNL.out]
        rfl
    · by_cases hll : l.length < l'.length
      · go_wp2_with fail
        go_ret
        refine ⟨_, rfl, ?_, hbw⟩
        rw [h0.out, aheadC_end (.inl (by omega)) hk hk', decide_eq_true hll]
        rfl
      · go_wp2_with fail
        go_ret
        refine ⟨_, rfl, ?_, hbw⟩
        rw [h0.out, aheadC_end (.inl (by omega)) hk hk', decide_eq_false hll]
        rfl
end Go.Proofs.YtdbohojncbeajaaGreat.V4

namespace Go.Proofs
open Go.Shelf
open Go.RowKit in
def Tryz.lays106_ren : Go.Shelf.Ren := ⟨fun | 106 => 62 | 213 => 89 | 265 => 117 | n => n, fun | 9 => 9 | 3 => 3 | n => n, fun | n => n⟩
theorem Tryz.lays106 : Go.Proofs.Lays.n106 Tryz.prog Tryz.lays106_ren := {
  mixed := by kernel_rfl
  f106 := Tryz.func62.trans (congrArg some (by kernel_rfl))
  f213 := Tryz.func89.trans (congrArg some (by kernel_rfl))
  f265 := Tryz.func117.trans (congrArg some (by kernel_rfl))
  t3 := Tryz.underlying3
  a3 := Tryz.isAgg3
  z3 := Tryz.sizeOf3
  v3 := Tryz.zeroValue3
  t9 := Tryz.underlying9
  a9 := Tryz.isAgg9
  z9 := Tryz.sizeOf9
  v9 := Tryz.zeroValue9 }
open Go.RowKit in
theorem Tryz.strings_Compare (a b : ByteArray) (w : World) :
    Calls Tryz.prog 62 #[.string a, .string b] w fun e w' => e = .returned (.int .i64 (Lib.compareBytes a.data.toList b.data.toList)) ∧ w' = w := Any.strings_Compare Tryz.lays106 a b w
def Tryz.laysNm216_ren : Go.Shelf.Ren := ⟨fun | 16 => 66 | n => n, fun | 24 => 25 | 9 => 9 | 4 => 4 | n => n, fun | n => n⟩
theorem Tryz.laysNm216 : Go.Proofs.Lays2.n16 Tryz.prog Tryz.laysNm216_ren := {
  mixed := by kernel_rfl
  f16 := Tryz.func66.trans (congrArg some (by kernel_rfl))
  t4 := Tryz.underlying4
  a4 := Tryz.isAgg4
  z4 := Tryz.sizeOf4
  v4 := Tryz.zeroValue4
  t9 := Tryz.underlying9
  a9 := Tryz.isAgg9
  z9 := Tryz.sizeOf9
  v9 := Tryz.zeroValue9
  t24 := Tryz.underlying25
  a24 := Tryz.isAgg25
  z24 := Tryz.sizeOf25
  v24 := Tryz.zeroValue25
  i9 := by kernel_rfl }
open Go.RowKit Go.Lib in
theorem Tryz.slices_Clone_string (b off n c : Nat) (zs : List ByteArray) (w : World) (hz : n ≤ zs.length) (hbig : n * 16 ≤ 140737488355328) (hc : ∀ j, j < zs.length → w.cell? ⟨b, off + j, none⟩ = some (.string (zs.getD j ByteArray.empty))) :
    Calls Tryz.prog 66 #[.slice (some ⟨b, off, none⟩) n c] w fun e w' => ∃ v', e = .returned v' ∧ w'.ownsRow w.heap.size 9 1 v' n ((zs.take n).map (Value.string)) ∧ v' ≠ .slice none 0 0 ∧ Below w.heap.size w w' := Any.slices_Clone_string Tryz.laysNm216 b off n c zs w hz hbig hc
open Go.RowKit Go.Lib in
theorem Tryz.slices_Clone_string_nil (n c : Nat) (w : World) :
    Calls Tryz.prog 66 #[.slice none n c] w fun e w' => e = .returned (.slice none 0 0) ∧ w' = w := Any.slices_Clone_string_nil Tryz.laysNm216 n c w
open Go.RowKit Go.Lib in
theorem Tryz.slices_Clone_string_zero (a : Addr) (c : Nat) (w : World) :
    Calls Tryz.prog 66 #[.slice (some a) 0 c] w fun e w' => ∃ v', e = .returned v' ∧ w'.ownsRow w.heap.size 9 1 v' 0 [] ∧ v' ≠ .slice none 0 0 ∧ Below w.heap.size w w' := Any.slices_Clone_string_zero Tryz.laysNm216 a c w
end Go.Proofs

namespace Go.Proofs.YtdbohojncbeajaaGreat.J5
open Go.RowKit
open C3 (Tk In cmpI cmpI_lt cmpI_gt cmpI_eq compare_any belAl allocB)
open V4 (tickI orI or_any compareU_any aheadC)

theorem cmpB_S : ∀ x y : Str, Lib.compareBytes x y = cmpS x y
  | [], [] => by unfold cmpS; simp [Lib.compareBytes]
  | [], y :: b => by unfold cmpS; simp [Lib.compareBytes]
  | x :: a, [] => by unfold cmpS; simp [Lib.compareBytes]
  | x :: a, y :: b => by
    rw [Lib.compareBytes, cmpB_S a b]
    unfold cmpS
    by_cases h1 : x < y
    · rw [if_pos h1, if_pos (List.cons_lt_cons_iff.2 (.inl h1))]
    · rw [if_neg h1]
      by_cases h2 : y < x
      · rw [if_pos h2, if_neg (fun h => by
          rcases List.cons_lt_cons_iff.1 h with h | ⟨h, _⟩
          · exact h1 h
          · subst h; exact h1 h2), if_pos (List.cons_lt_cons_iff.2 (.inl h2))]
      · rw [if_neg h2]
        have e : x = y := UInt8.le_antisymm (UInt8.not_lt.1 h2) (UInt8.not_lt.1 h1)
        subst e
        simp

theorem strCmp_any (x y : Str) (w : World) : Calls Tryz.prog 62 #[.string (S x), .string (S y)] w (RetV w (.int .i64 (cmpS x y))) := by
  refine (Go.Proofs.Tryz.strings_Compare (S x) (S y) w).mono ?_
  rintro e w' ⟨rfl, rfl⟩
  refine ⟨?_, Below.refl _ _⟩
  rw [← cmpB_S]
  rfl

/-- The order of rows of ticks, as slices.CompareFunc tells it. -/
def rowI : List Tk → List Tk → Int
  | [], [] => 0
  | [], _ :: _ => -1
  | _ :: _, [] => 1
  | x :: a, y :: b => if tickI x y = 0 then rowI a b else tickI x y
theorem rowI_drop {a b : List Tk} {i : Nat} {x y : Tk} (hx : a[i]? = some x) (hy : b[i]? = some y) : rowI (a.drop i) (b.drop i) = if tickI x y = 0 then rowI (a.drop (i + 1)) (b.drop (i + 1)) else tickI x y := by
  obtain ⟨hi, he⟩ := List.getElem?_eq_some_iff.1 hx
  obtain ⟨hj, hf⟩ := List.getElem?_eq_some_iff.1 hy
  rw [List.drop_eq_getElem_cons hi, List.drop_eq_getElem_cons hj, he, hf, rowI]
theorem rowI_eq0 {a b : List Tk} {i : Nat} {x y : Tk} (hx : a[i]? = some x) (hy : b[i]? = some y) (h : tickI x y = 0) : rowI (a.drop i) (b.drop i) = rowI (a.drop (i + 1)) (b.drop (i + 1)) := by rw [rowI_drop hx hy, if_pos h]
theorem rowI_ne {a b : List Tk} {i : Nat} {x y : Tk} (hx : a[i]? = some x) (hy : b[i]? = some y) (h : tickI x y ≠ 0) : rowI (a.drop i) (b.drop i) = tickI x y := by rw [rowI_drop hx hy, if_neg h]
theorem rowI_gt {a b : List Tk} {i : Nat} (h1 : i < a.length) (h2 : b.length ≤ i) (_ : i ≤ b.length) : rowI (a.drop i) (b.drop i) = 1 := by
  rw [List.drop_eq_getElem_cons h1, List.drop_of_length_le h2, rowI]
theorem rowI_lt {a b : List Tk} {i : Nat} (h1 : a.length ≤ i) (_ : i ≤ a.length) (h2 : i < b.length) : rowI (a.drop i) (b.drop i) = -1 := by
  rw [List.drop_eq_getElem_cons h2, List.drop_of_length_le h1, rowI]
theorem rowI_end {a b : List Tk} {i : Nat} (h1 : a.length ≤ i) (h2 : b.length ≤ i) : rowI (a.drop i) (b.drop i) = 0 := by
  rw [List.drop_of_length_le h1, List.drop_of_length_le h2, rowI]
theorem rowI_T : ∀ a b : List Tk, rowI a b = cmpT a b
  | [], [] => by unfold cmpT; simp [rowI, aheadC]
  | [], y :: b => by unfold cmpT; simp [rowI, aheadC]
  | x :: a, [] => by unfold cmpT; simp [rowI, aheadC]
  | x :: a, y :: b => by
    rw [rowI, rowI_T a b]
    unfold cmpT
    rw [aheadC, aheadC]
    rcases Int.lt_trichotomy x.k y.k with hk | hk | hk
    · rw [V4.tickI_lt hk, if_neg (by decide), if_neg (show ¬ x.k = y.k by omega), if_pos (decide_eq_true hk)]
    · rw [V4.tickI_k hk, if_pos hk, if_pos hk.symm]
      rcases Int.lt_trichotomy x.n y.n with hn | hn | hn
      · rw [cmpI_lt hn, if_neg (by decide), if_neg (show ¬ x.n = y.n by omega), if_pos (decide_eq_true hn)]
      · rw [hn, cmpI_eq, if_pos rfl, if_pos rfl, if_pos rfl]
      · rw [cmpI_gt hn, if_neg (by decide), if_neg (show ¬ x.n = y.n by omega), if_neg (show ¬ decide (x.n < y.n) = true by simp; omega), if_neg (show ¬ y.n = x.n by omega), if_pos (decide_eq_true hn)]
    · rw [V4.tickI_gt hk, if_neg (by decide), if_neg (show ¬ x.k = y.k by omega), if_neg (show ¬ decide (x.k < y.k) = true by simp; omega), if_neg (show ¬ y.k = x.k by omega), if_pos (decide_eq_true hk)]

set_option maxHeartbeats 1000000 in
theorem jbyTick_any (xk xn yk yn : Int) (w : World) : Calls Tryz.prog 101 #[.agg #[.int .i64 xk, .int .u64 xn], .agg #[.int .i64 yk, .int .u64 yn]] w (RetV w (.int .i64 (tickI ⟨xk, xn⟩ ⟨yk, yn⟩))) := by
  obtain ⟨p, hp⟩ : ∃ p, cmpI xk yk = p := ⟨_, rfl⟩
  obtain ⟨q, hq⟩ : ∃ q, cmpI xn yn = q := ⟨_, rfl⟩
  have HP := Lib.hid hp
  have HQ := Lib.hid hq
  have HR : Hid (tickI ⟨xk, xn⟩ ⟨yk, yn⟩ = orI p q) := by show tickI _ _ = _; unfold tickI; rw [← hp, ← hq]
  clear hp hq
  go_enter Tryz.func101, Tryz.ntmps101
  go_wp2_with fail
  have e0 : ((w.alloc (.cells #[.int .i64 xk, .int .u64 xn] 60)).alloc (.cells #[.int .i64 yk, .int .u64 yn] 60)).cell? ⟨w.heap.size, 0, none⟩ = some (.int .i64 xk) := by simp [World.cell?_alloc_past]
  have e1 : ((w.alloc (.cells #[.int .i64 xk, .int .u64 xn] 60)).alloc (.cells #[.int .i64 yk, .int .u64 yn] 60)).cell? ⟨w.heap.size, 1, none⟩ = some (.int .u64 xn) := by simp [World.cell?_alloc_past]
  have e2 : ((w.alloc (.cells #[.int .i64 xk, .int .u64 xn] 60)).alloc (.cells #[.int .i64 yk, .int .u64 yn] 60)).cell? ⟨w.heap.size + 1, 0, none⟩ = some (.int .i64 yk) := by simp
  have e3 : ((w.alloc (.cells #[.int .i64 xk, .int .u64 xn] 60)).alloc (.cells #[.int .i64 yk, .int .u64 yn] 60)).cell? ⟨w.heap.size + 1, 1, none⟩ = some (.int .u64 yn) := by simp
  have hB0 : Below w.heap.size w ((w.alloc (.cells #[.int .i64 xk, .int .u64 xn] 60)).alloc (.cells #[.int .i64 yk, .int .u64 yn] 60)) := belAl (belAl (Below.refl _ _))
  have hsz : w.heap.size + 2 ≤ ((w.alloc (.cells #[.int .i64 xk, .int .u64 xn] 60)).alloc (.cells #[.int .i64 yk, .int .u64 yn] 60)).heap.size := by simp
  have hs0 : w.heap.size < ((w.alloc (.cells #[.int .i64 xk, .int .u64 xn] 60)).alloc (.cells #[.int .i64 yk, .int .u64 yn] 60)).heap.size := by omega
  have hs1 : w.heap.size + 1 < ((w.alloc (.cells #[.int .i64 xk, .int .u64 xn] 60)).alloc (.cells #[.int .i64 yk, .int .u64 yn] 60)).heap.size := by omega
  generalize ((w.alloc (.cells #[.int .i64 xk, .int .u64 xn] 60)).alloc (.cells #[.int .i64 yk, .int .u64 yn] 60)) = W0 at *
  go_region_held3 (fun w' => w'.cell? ⟨w.heap.size, 0, none⟩ = some (.int .i64 xk) ∧ w'.cell? ⟨w.heap.size, 1, none⟩ = some (.int .u64 xn) ∧ w'.cell? ⟨w.heap.size + 1, 0, none⟩ = some (.int .i64 yk) ∧ w'.cell? ⟨w.heap.size + 1, 1, none⟩ = some (.int .u64 yn))
    (first
      | with_reducible exact ⟨e0, e1, e2, e3⟩
      | (refine ⟨?_, ?_, ?_, ?_⟩ <;> go_simp))
    (first
      | (go_at_call 120; refine (compare_any xk yk _).mono ?_; rintro e w4 ⟨rfl, rfl⟩; rw [HP.out])
      | (go_at_call 91; refine (compareU_any xn yn _).mono ?_; rintro e w4 ⟨rfl, rfl⟩; rw [HQ.out])
      | (go_at_call 90; refine (or_any _ p q _ (by simp) (by simp)).mono ?_; rintro e w4 ⟨rfl, rfl⟩))
  all_goals (
    go_wp2_with fail
    go_ret
    exact ⟨by rw [HR.out]; rfl, (belAl hB0).drew⟩)

set_option maxHeartbeats 1000000 in
theorem jcompareFunc_any (A A' : Option Addr) (c c' : Nat) (l l' : List Tk) (w : World) (h : In w A c l) (h' : In w A' c' l') :
    Calls Tryz.prog 100 #[.slice A l.length c, .slice A' l'.length c', .func (.func 101) #[] #[]] w (RetV w (.int .i64 (rowI l l'))) := by
  obtain ⟨hl, hcap, htop, -⟩ := h
  obtain ⟨hl', hcap', htop', -⟩ := h'
  have hlm : l.length ≤ 9223372036854775807 := by unfold maxLen at htop; omega
  have hlm' : l'.length ≤ 9223372036854775807 := by unfold maxLen at htop'; omega
  clear hcap htop hcap' htop'
  go_enter Tryz.func100, Tryz.ntmps100
  go_wp2_with fail
  go_loopw [13] (fun iv wr => ∃ k : Nat, k ≤ l.length ∧ k ≤ l'.length ∧ iv = .int .i64 k ∧ Hid (rowI l l' = rowI (l.drop k) (l'.drop k)) ∧ Below w.heap.size w wr) (fun iv _ => l.length - (intOf iv).toNat)
  case atStart => exact ⟨0, Nat.zero_le _, Nat.zero_le _, rfl, rfl, Below.refl _ _⟩
  case round =>
    obtain ⟨k, hk, hk', rfl, h0, hbw⟩ := hrel
    by_cases hlt : k < l.length
    · obtain ⟨b, off, rfl, hb, hc⟩ := (hl.below hbw).get hlt
      obtain ⟨x, hx⟩ : ∃ x, l[k]? = some x := ⟨_, List.getElem?_eq_getElem hlt⟩
      obtain ⟨hc0, hc1⟩ := hc k x hx
      have HX := Lib.hid hx
      clear hx hc hl
      obtain ⟨xk, xn⟩ := x
      dsimp only at hc0 hc1
      by_cases hlt' : k < l'.length
      · obtain ⟨b', off', rfl, hb', hc'⟩ := (hl'.below hbw).get hlt'
        obtain ⟨y, hy⟩ : ∃ y, l'[k]? = some y := ⟨_, List.getElem?_eq_getElem hlt'⟩
        obtain ⟨hd0, hd1⟩ := hc' k y hy
        have HY := Lib.hid hy
        clear hy hc' hl'
        obtain ⟨yk, yn⟩ := y
        dsimp only at hd0 hd1
        have hbb : b < wr.heap.size := World.block_lt_of_cell? wr _ hc0
        have hbb' : b' < wr.heap.size := World.block_lt_of_cell? wr _ hd0
        have d1 : ¬ (l'.length ≤ k) := by omega
        obtain ⟨q, hq⟩ : ∃ q, tickI ⟨xk, xn⟩ ⟨yk, yn⟩ = q := ⟨_, rfl⟩
        have HQ := Lib.hid hq
        clear hq
        have f0 : (wr.alloc (.cells #[.int .i64 xk, .int .u64 xn] 60)).cell? ⟨b', off' + k * 2, none⟩ = some (.int .i64 yk) := (World.cell?_alloc_past _ _ _ hbb').trans hd0
        have f1 : (wr.alloc (.cells #[.int .i64 xk, .int .u64 xn] 60)).cell? ⟨b', off' + k * 2 + 1, none⟩ = some (.int .u64 yn) := (World.cell?_alloc_past _ _ _ hbb').trans hd1
        go_wp2_with fail
        refine (jbyTick_any xk xn yk yn _).mono ?_
        rintro e w' ⟨rfl, hb2⟩
        rw [HQ.out]
        have hb3 : Below w.heap.size w w' := hbw.trans (((belAl (belAl (Below.refl _ _))).trans (hb2.mono (by simp; omega))).mono hbw.size)
        by_cases hq0 : q = 0
        · have k0 : (q != 0) = false := by simp [hq0]
          clear hb2
          go_wp2_with fail
          go_roundw
          case rel => exact ⟨k + 1, by omega, by omega, by go_num, by show _ = _; rw [h0.out]; exact rowI_eq0 HX.out HY.out (HQ.out.trans hq0), hb3⟩
          case measure => simp [intOf]; omega
        · have k0 : (q != 0) = true := by simp [hq0]
          clear hb2
          go_wp2_with fail
          go_ret
          refine ⟨ret_int ?_, hb3⟩
          rw [h0.out, rowI_ne HX.out HY.out (by rw [HQ.out]; exact hq0), HQ.out]
      · have d1 : l'.length ≤ k := by omega
        have HNL : Hid (¬ l.length < l'.length) := by show ¬ _; omega
        go_wp2_with fail
        go_ret
        refine ⟨ret_int ?_, belAl hbw⟩
        rw [h0.out, rowI_gt hlt d1 hk']
    · by_cases hll : l.length < l'.length
      · go_wp2_with fail
        go_ret
        refine ⟨ret_int ?_, hbw⟩
        rw [h0.out, rowI_lt (by omega) hk (by omega)]
      · go_wp2_with fail
        go_ret
        refine ⟨ret_int ?_, hbw⟩
        rw [h0.out, rowI_end (by omega) (by omega)]

set_option maxHeartbeats 400000 in
theorem byTicks_any (A A' : Option Addr) (c c' : Nat) (l l' : List Tk) (w : World) (h : In w A c l) (h' : In w A' c' l') :
    Calls Tryz.prog 71 #[.slice A l.length c, .slice A' l'.length c'] w (RetV w (.int .i64 (cmpT l l'))) := by
  rw [← rowI_T]
  have HC := Lib.hid (jcompareFunc_any A A' c c' l l' w h h')
  clear h h'
  go_enter Tryz.func71, Tryz.ntmps71
  go_wp2_with fail
  refine HC.out.mono ?_
  rintro e w' ⟨rfl, hb⟩
  go_wp2_with fail
  go_ret
  exact ⟨rfl, hb⟩
end Go.Proofs.YtdbohojncbeajaaGreat.J5

namespace Go.Proofs.YtdbohojncbeajaaGreat.J5
open Go.RowKit Go.Shelf
open C3 (Tk In belAl allocB)
open V4 (Va Vl Ck LiesC cellsV cellsC val_mk)

theorem LiesC.low {N : Nat} {w : World} {A : Option Addr} {cs : List Value} (h : LiesC (fun b => b < N) w A cs) (hN : N ≤ w.heap.size) : LiesC (fun b => b < w.heap.size) w A cs := h.mono fun _ hb => Nat.lt_of_lt_of_le hb hN
theorem Ck.low {N : Nat} {w : World} {k : Ck} (h : k.Inp (fun b => b < N) w) (hN : N ≤ w.heap.size) : k.Inp (fun b => b < w.heap.size) w := h.mono fun _ hb => Nat.lt_of_lt_of_le hb hN
theorem Vl.low {N : Nat} {w : World} {k : Vl} (h : k.Inp (fun b => b < N) w) (hN : N ≤ w.heap.size) : k.In w := h.mono fun _ hb => Nat.lt_of_lt_of_le hb hN

/-- A row without its first. -/
theorem LiesC.tail {P : Nat → Prop} {w : World} {b off : Nat} {u : List Value} {cs : List Value} (h : LiesC P w (some ⟨b, off, none⟩) (u ++ cs)) : LiesC P w (some ⟨b, off + u.length, none⟩) cs := by
  rcases h with h | ⟨b', off', hA, hP, h⟩
  · exact .inl (List.append_eq_nil_iff.1 h).2
  · cases hA
    refine .inr ⟨b, off + u.length, rfl, hP, fun i v hv => ?_⟩
    have := h (u.length + i) v (by rw [List.getElem?_append_right (by omega)]; simpa using hv)
    rwa [← Nat.add_assoc] at this

theorem alloc3_0 {w : World} {cs : Array Value} {t : TypeId} {o2 o3 : Obj} (i : Nat) (v : Value) (h : cs[i]? = some v) : (((w.alloc (.cells cs t)).alloc o2).alloc o3).cell? ⟨w.heap.size, i, none⟩ = some v :=
  ((V4.belAl1 (V4.belAl1 (Below.refl (w.heap.size + 1) (w.alloc (.cells cs t))) (by simp)) (by simp)).cell (p := ⟨w.heap.size, i, none⟩) (by simp)).trans (V4.alloc_cells i v h)
theorem blk_cell {w : World} {b : Nat} {cs : Array Value} {t : TypeId} (h : w.heap[b]? = some (.cells cs t (0, 0))) (i : Nat) (v : Value) (hv : cs[i]? = some v) : w.cell? ⟨b, i, none⟩ = some v := by
  unfold World.cell?
  rw [h]
  simpa using hv
theorem blk_frozen {w : World} {b : Nat} {cs : Array Value} {t : TypeId} (h : w.heap[b]? = some (.cells cs t (0, 0))) (i : Nat) : w.frozen? ⟨b, i, none⟩ = false := by
  simp [World.frozen?, h]

def lowI {M V : Type} (c : M → M → Int) : List (M × V) → List (M × V) → Int
  | _, [] => -1
  | [], _ :: _ => 1
  | x :: _, y :: _ => c x.1 y.1

def encS (x : Str) : Value := .string (S x)
def cmpSS (x y : Str) : Int := cmpS x y
def OkS (N : Nat) (w : World) (x : Str) : Prop := (fun (_ : Nat) (_ : World) (_ : Str) => True) N w x
/-- A line where it lies. -/
structure LnS where
  A : Option Addr
  c : Nat
  B : Option Addr
  d : Nat
  l : List (Str × Vl)
def LnS.val (L : LnS) : Value := .agg #[.slice L.A L.l.length L.c, .slice L.B L.l.length L.d]
structure LnS.In (N : Nat) (w : World) (L : LnS) : Prop where
  ml : LiesC (fun b => b < N) w L.A (L.l.map fun p => encS p.1)
  vl : LiesC (fun b => b < N) w L.B (cellsV (L.l.map (·.2)))
  cap : L.l.length ≤ L.c
  top : L.c ≤ maxLen
  dap : L.l.length ≤ L.d
  dop : L.d ≤ maxLen
  mo : ∀ p ∈ L.l, OkS N w p.1
  vk : ∀ p ∈ L.l, p.2.Inp (fun b => b < N) w
theorem OkS.keep {N : Nat} {w w' : World} {x : Str} (h : OkS N w x) (hb : Below N w w') : OkS N w' x := (fun _ _ => trivial) h hb
theorem LnS.In.keep {N : Nat} {w w' : World} {L : LnS} (h : L.In N w) (hb : Below N w w') : L.In N w' :=
  ⟨h.ml.keep fun b hlt => hb.block b hlt, h.vl.keep fun b hlt => hb.block b hlt, h.cap, h.top, h.dap, h.dop, fun p hp => (h.mo p hp).keep hb, fun p hp => (h.vk p hp).keep fun b hlt => hb.block b hlt⟩

set_option maxHeartbeats 1000000 in
theorem lowerS_any (L K : LnS) (N : Nat) (w : World) (hL : L.In N w) (hK : K.In N w) (hN : N ≤ w.heap.size) :
    Calls Tryz.prog 87 #[.slice L.A L.l.length L.c, .slice K.A K.l.length K.c, .func (.func 62) #[] #[]] w (RetV w (.int .i64 (lowI cmpSS L.l K.l))) := by
  obtain ⟨A, c, B, d, l⟩ := L
  obtain ⟨A', c', B', d', l'⟩ := K
  have htop := hL.top
  have htop' := hK.top
  have hcap := hL.cap
  have hcap' := hK.cap
  unfold maxLen at htop htop'
  dsimp only at htop htop' hcap hcap' ⊢
  cases l' with
  | nil =>
    clear hL hK
    rw [show lowI cmpSS l [] = -1 by cases l <;> rfl]
    go_enter Tryz.func87, Tryz.ntmps87
    go_wp2_with fail
    go_ret
    exact ⟨rfl, Below.refl _ _⟩
  | cons y l' =>
    cases l with
    | nil =>
      clear hL hK
      rw [show lowI cmpSS [] (y :: l') = 1 from rfl]
      go_enter Tryz.func87, Tryz.ntmps87
      go_wp2_with fail
      go_ret
      exact ⟨rfl, Below.refl _ _⟩
    | cons x l =>
      obtain ⟨b, off, rfl, hb, hc⟩ := hL.ml.get (k := 0) (by simp)
      obtain ⟨b', off', rfl, hb', hc'⟩ := hK.ml.get (k := 0) (by simp)
      have c0 : w.cell? ⟨b, off, none⟩ = some (encS x.1) := hc 0 _ rfl
      have d0 : w.cell? ⟨b', off', none⟩ = some (encS y.1) := hc' 0 _ rfl
      have HX := Lib.hid (show OkS w.heap.size w x.1 from trivial)
      have HY := Lib.hid (show OkS w.heap.size w y.1 from trivial)
      have HC : Hid (∀ w2, Below w.heap.size w w2 → Calls Tryz.prog 62 #[encS x.1, encS y.1] w2 (RetV w2 (.int .i64 (cmpSS x.1 y.1)))) := fun w2 _ => strCmp_any x.1 y.1 w2
      rw [show lowI cmpSS (x :: l) (y :: l') = cmpSS x.1 y.1 from rfl]
      obtain ⟨q, hq⟩ : ∃ q, cmpSS x.1 y.1 = q := ⟨_, rfl⟩
      rw [hq] at HC ⊢
      obtain ⟨u, hu⟩ : ∃ u, encS x.1 = u := ⟨_, rfl⟩
      obtain ⟨v, hv⟩ : ∃ v, encS y.1 = v := ⟨_, rfl⟩
      rw [hu] at HC c0
      rw [hv] at HC d0
      have k0 : (((y :: l').length : Int) == 0) = false := beq_eq_false_iff_ne.2 (by simp only [List.length_cons]; omega)
      have k1 : (((x :: l).length : Int) == 0) = false := beq_eq_false_iff_ne.2 (by simp only [List.length_cons]; omega)
      have k2 : 0 < (x :: l).length := by simp
      have k3 : 0 < (y :: l').length := by simp
      have hbb : b < w.heap.size := Nat.lt_of_lt_of_le hb hN
      have hbb' : b' < w.heap.size := Nat.lt_of_lt_of_le hb' hN
      generalize (x :: l).length = n1 at *
      generalize (y :: l').length = n2 at *
      clear hL hK hc hc' hq hu hv HX HY
      go_enter Tryz.func87, Tryz.ntmps87
      go_wp2_with fail
      go_region_held3 (fun w' => w'.cell? ⟨b, off, none⟩ = some u ∧ w'.cell? ⟨b', off', none⟩ = some v)
        (first
          | with_reducible exact ⟨c0, d0⟩
          | (refine ⟨?_, ?_⟩ <;> go_simp))
        (first
          | (go_at_call 62; refine (HC.out _ (C3.drewB w)).mono ?_; rintro e w4 ⟨rfl, hb4⟩; (have c0 := (hb4.cell (p := ⟨b, off, none⟩) hbb).trans c0; have d0 := (hb4.cell (p := ⟨b', off', none⟩) hbb').trans d0)))
      all_goals (
        go_wp2_with fail
        go_ret
        exact ⟨rfl, (C3.drewB w).trans hb4⟩)

theorem results_splitS {fn : Func} {u p q : Tmp} (h : fn.results = #[.tmp u, .cell p 29, .cell q 116]) (tmps : Array Value) (w : World) (g k : Nat) (v0 v1 v2 v3 v4 u0 u1 : Value) (hp : tmps.getD p undef = .pointer (some ⟨g, 0, none⟩)) (hq : tmps.getD q undef = .pointer (some ⟨k, 0, none⟩))
    (h0 : w.cell? ⟨g, 0, none⟩ = some v0) (h1 : w.cell? ⟨g, 1, none⟩ = some v1) (h2 : w.cell? ⟨g, 2, none⟩ = some v2) (h3 : w.cell? ⟨g, 3, none⟩ = some v3) (h4 : w.cell? ⟨g, 4, none⟩ = some v4) (g0 : w.cell? ⟨k, 0, none⟩ = some u0) (g1 : w.cell? ⟨k, 1, none⟩ = some u1) : (results fn tmps).run Tryz.prog w = .ok (.tuple #[tmps.getD u undef, .agg #[v0, v1, v2, v3, v4], .agg #[u0, u1]]) w := by
  have hp' : tmps[p]?.getD undef = .pointer (some ⟨g, 0, none⟩) := by simpa using hp
  have hq' : tmps[q]?.getD undef = .pointer (some ⟨k, 0, none⟩) := by simpa using hq
  simp [results, h, hp', hq', asAddr]
  go_simp

/-- What split answers. -/
def RetSpS (N c d : Nat) (x : Str × Vl) (l : List (Str × Vl)) (w : World) (e : Ending) (w' : World) : Prop :=
  ∃ A' B', e = .returned (.tuple #[encS x.1, x.2.val, .agg #[.slice A' l.length (c - 1), .slice B' l.length (d - 1)]]) ∧ (LnS.mk A' (c - 1) B' (d - 1) l).In N w' ∧ Below w.heap.size w w'

set_option maxRecDepth 100000 in
set_option maxHeartbeats 2000000 in
theorem splitS_any (A B : Option Addr) (c d : Nat) (x : Str × Vl) (l : List (Str × Vl)) (N : Nat) (w : World) (hL : (LnS.mk A c B d (x :: l)).In N w) (hN : N ≤ w.heap.size) :
    Calls Tryz.prog 88 #[.agg #[.slice A (x :: l).length c, .slice B (x :: l).length d]] w (RetSpS N c d x l w) := by
  have htop := hL.top
  have hcap := hL.cap
  have hdop := hL.dop
  have hdap := hL.dap
  unfold maxLen at htop hdop
  dsimp only at htop hcap hdop hdap
  have hml := hL.ml
  have hvl := hL.vl
  dsimp only at hml hvl
  obtain ⟨b, off, rfl, hb, hc⟩ := hml.get (k := 0) (by simp)
  have c0 : w.cell? ⟨b, off, none⟩ = some (encS x.1) := hc 0 _ rfl
  obtain ⟨b', off', rfl, hb', e0, e1, e2, e3, e4⟩ := V4.value_at hvl (k := 0) (x := x.2) rfl
  rw [Nat.zero_mul, Nat.add_zero] at e0 e1 e2 e3 e4
  have htl : LiesC (fun b => b < N) w (some ⟨b, off + 1, none⟩) (l.map fun p => encS p.1) := LiesC.tail (u := [encS x.1]) hml
  have htv : LiesC (fun b => b < N) w (some ⟨b', off' + 5, none⟩) (cellsV (l.map (·.2))) := LiesC.tail (u := V4.cells5 x.2) (by rw [show V4.cells5 x.2 ++ cellsV (l.map (·.2)) = cellsV ((x :: l).map (·.2)) by simp [cellsV, V4.cells5]]; exact hvl)
  have HE : Hid (∀ (A' B' : Option Addr) (w' : World), (A' = some ⟨b, off + 1, none⟩ ∨ l = []) → (B' = some ⟨b', off' + 5, none⟩ ∨ l = []) → Below w.heap.size w w' → RetSpS N c d x l w (.returned (.tuple #[encS x.1, x.2.val, .agg #[.slice A' l.length (c - 1), .slice B' l.length (d - 1)]])) w') := by
    intro A' B' w' hA hB hbw
    refine ⟨A', B', rfl, ?_, hbw⟩
    have h1 : (LnS.mk A' (c - 1) B' (d - 1) l).In N w := by
      refine ⟨?_, ?_, ?_, ?_, ?_, ?_, fun p hp => hL.mo p (by simp [hp]), fun p hp => hL.vk p (by simp [hp])⟩
      · rcases hA with rfl | rfl
        · exact htl
        · exact .inl rfl
      · rcases hB with rfl | rfl
        · exact htv
        · exact .inl rfl
      · simp only [List.length_cons] at hcap ⊢; omega
      · unfold maxLen; show _ - 1 ≤ _; omega
      · simp only [List.length_cons] at hdap ⊢; omega
      · unfold maxLen; show _ - 1 ≤ _; omega
    exact h1.keep (hbw.mono hN)
  clear hL hml hvl hc htl htv
  obtain ⟨xm, xn, xM, xsA, xsc, xss, xcA, xcc, xcs, xvA, xvc, xvs⟩ := x
  simp only [val_mk, List.length_cons] at HE e0 e1 e2 e3 e4 hcap hdap c0 ⊢
  simp only [V4.Vl.n, V4.Vl.m, V4.Vl.s1, V4.Vl.c1, V4.Vl.v1] at e0 e1 e2 e3 e4
  obtain ⟨u, hu⟩ : ∃ u, encS xm = u := ⟨_, rfl⟩
  rw [hu] at HE c0
  clear hu
  have HLL : Hid (l.length = 0 → l = []) := List.eq_nil_of_length_eq_zero
  obtain ⟨n, hn⟩ : ∃ n, l.length = n := ⟨_, rfl⟩
  simp only [hn] at HE HLL hcap hdap ⊢
  clear hn
  have hbb : b < w.heap.size := Nat.lt_of_lt_of_le hb hN
  have hbb' : b' < w.heap.size := Nat.lt_of_lt_of_le hb' hN
  clear hb hb' hN
  obtain ⟨V, hV⟩ : ∃ V, ((w.alloc (.cells #[.slice (some ⟨b, off, none⟩) (n + 1) c, .slice (some ⟨b', off', none⟩) (n + 1) d] 116)).alloc (.cells #[.int .u64 0, .int .u64 0, .slice none 0 0, .slice none 0 0, .slice none 0 0] 29)).alloc (.cells #[.slice none 0 0, .slice none 0 0] 116) = V := ⟨_, rfl⟩
  have hbV : Below w.heap.size w V := by rw [← hV]; exact belAl (belAl (belAl (Below.refl _ _)))
  have c0 := (hbV.cell (p := ⟨b, off, none⟩) hbb).trans c0
  have e0 := (hbV.cell (p := ⟨b', off', none⟩) hbb').trans e0
  have e1 := (hbV.cell (p := ⟨b', off' + 1, none⟩) hbb').trans e1
  have e2 := (hbV.cell (p := ⟨b', off' + 2, none⟩) hbb').trans e2
  have e3 := (hbV.cell (p := ⟨b', off' + 3, none⟩) hbb').trans e3
  have e4 := (hbV.cell (p := ⟨b', off' + 4, none⟩) hbb').trans e4
  have k0 : V.cell? ⟨w.heap.size, 0, none⟩ = some (.slice (some ⟨b, off, none⟩) (n + 1) c) := by rw [← hV]; exact alloc3_0 0 _ rfl
  have k1 : V.cell? ⟨w.heap.size, 1, none⟩ = some (.slice (some ⟨b', off', none⟩) (n + 1) d) := by rw [← hV]; exact alloc3_0 1 _ rfl
  have hv1 : V.heap[w.heap.size + 1]? = some (.cells #[.int .u64 0, .int .u64 0, .slice none 0 0, .slice none 0 0, .slice none 0 0] 29 (0, 0)) := by
    rw [← hV]; have := World.alloc_heap_new (w.alloc (.cells #[.slice (some ⟨b, off, none⟩) (n + 1) c, .slice (some ⟨b', off', none⟩) (n + 1) d] 116)) (.cells #[.int .u64 0, .int .u64 0, .slice none 0 0, .slice none 0 0, .slice none 0 0] 29); rw [World.size_alloc] at this; exact (Below.heap_alloc _ _ _ (by simp)).trans this
  have hv2 : V.heap[w.heap.size + 1 + 1]? = some (.cells #[.slice none 0 0, .slice none 0 0] 116 (0, 0)) := by
    rw [← hV]; have := World.alloc_heap_new ((w.alloc (.cells #[.slice (some ⟨b, off, none⟩) (n + 1) c, .slice (some ⟨b', off', none⟩) (n + 1) d] 116)).alloc (.cells #[.int .u64 0, .int .u64 0, .slice none 0 0, .slice none 0 0, .slice none 0 0] 29)) (.cells #[.slice none 0 0, .slice none 0 0] 116); rw [World.size_alloc, World.size_alloc] at this; exact this
  have b0 : V.cell? ⟨w.heap.size + 1, 0, none⟩ = some (.int .u64 0) := blk_cell hv1 0 _ rfl
  have b1 : V.cell? ⟨w.heap.size + 1, 1, none⟩ = some (.int .u64 0) := blk_cell hv1 1 _ rfl
  have b2 : V.cell? ⟨w.heap.size + 1, 2, none⟩ = some (.slice none 0 0) := blk_cell hv1 2 _ rfl
  have b3 : V.cell? ⟨w.heap.size + 1, 3, none⟩ = some (.slice none 0 0) := blk_cell hv1 3 _ rfl
  have b4 : V.cell? ⟨w.heap.size + 1, 4, none⟩ = some (.slice none 0 0) := blk_cell hv1 4 _ rfl
  have f0 := blk_frozen hv1 0
  have f1 := blk_frozen hv1 1
  have f2 := blk_frozen hv1 2
  have f3 := blk_frozen hv1 3
  have f4 := blk_frozen hv1 4
  have l0 : V.cell? ⟨w.heap.size + 1 + 1, 0, none⟩ = some (.slice none 0 0) := blk_cell hv2 0 _ rfl
  have l1 : V.cell? ⟨w.heap.size + 1 + 1, 1, none⟩ = some (.slice none 0 0) := blk_cell hv2 1 _ rfl
  have m0 := blk_frozen hv2 0
  have m1 := blk_frozen hv2 1
  have HB := Lib.hid hbV
  have n1 : b ≠ w.heap.size + 1 := by omega
  have n2 : b ≠ w.heap.size + 1 + 1 := by omega
  have n3 : b' ≠ w.heap.size + 1 := by omega
  have n4 : b' ≠ w.heap.size + 1 + 1 := by omega
  clear hv1 hv2 hbV
  have HS : Hid (∀ v0 v1 v2 v3 v4 u0 u1, Below w.heap.size w ((((((((V.setCell ⟨w.heap.size + 1, 0, none⟩ v0).setCell ⟨w.heap.size + 1, 1, none⟩ v1).setCell ⟨w.heap.size + 1, 2, none⟩ v2).setCell ⟨w.heap.size + 1, 3, none⟩ v3).setCell ⟨w.heap.size + 1, 4, none⟩ v4).setCell ⟨w.heap.size + 1 + 1, 0, none⟩ u0).setCell ⟨w.heap.size + 1 + 1, 1, none⟩ u1).drew)) := fun v0 v1 v2 v3 v4 u0 u1 =>
    (((((((HB.out.setCell (by simp) _).setCell (by simp) _).setCell (by simp) _).setCell (by simp) _).setCell (by simp) _).setCell (by simp; omega) _).setCell (by simp; omega) _).drew
  have q1 : 1 ≤ c := by omega
  have q2 : 1 ≤ d := by omega
  go_enter Tryz.func88, Tryz.ntmps88
  go_wp2_with fail
  go_region
  obtain ⟨A2, hA2⟩ : ∃ A2 : Option Addr, (if c = 1 then some ⟨b, off, none⟩ else some ⟨b, off + 1, none⟩) = A2 := ⟨_, rfl⟩
  obtain ⟨B2, hB2⟩ : ∃ B2 : Option Addr, (if d = 1 then some ⟨b', off', none⟩ else some ⟨b', off' + 5, none⟩) = B2 := ⟨_, rfl⟩
  simp only [hA2, hB2]
  have HA2 : Hid (A2 = some ⟨b, off + 1, none⟩ ∨ l = []) := by
    show _ ∨ _
    rw [← hA2]
    split
    · exact .inr (HLL.out (by omega))
    · exact .inl rfl
  have HB2 : Hid (B2 = some ⟨b', off' + 5, none⟩ ∨ l = []) := by
    show _ ∨ _
    rw [← hB2]
    split
    · exact .inr (HLL.out (by omega))
    · exact .inl rfl
  clear hA2 hB2
  go_wp2_with fail
  refine bodyPost_ret (results_splitS rfl _ _ (w.heap.size + 1) (w.heap.size + 1 + 1) (.int .u64 xn) (.int .u64 xM) (.slice xsA xss.length xsc) (.slice xcA xcs.length xcc) (.slice xvA xvs.length xvc) (.slice A2 n (c - 1)) (.slice B2 n (d - 1)) rfl rfl (by go_simp) (by go_simp) (by go_simp) (by go_simp) (by go_simp) (by go_simp) (by go_simp)) rfl ?_
  exact HE.out _ _ _ HA2.out HB2.out (HS.out _ _ _ _ _ _ _)

def encT (x : Ck) : Value := x.v
def cmpTT (x y : Ck) : Int := cmpT x.l y.l
def OkT (N : Nat) (w : World) (x : Ck) : Prop := x.Inp (fun b => b < N) w
/-- A line where it lies. -/
structure LnT where
  A : Option Addr
  c : Nat
  B : Option Addr
  d : Nat
  l : List (Ck × Vl)
def LnT.val (L : LnT) : Value := .agg #[.slice L.A L.l.length L.c, .slice L.B L.l.length L.d]
structure LnT.In (N : Nat) (w : World) (L : LnT) : Prop where
  ml : LiesC (fun b => b < N) w L.A (L.l.map fun p => encT p.1)
  vl : LiesC (fun b => b < N) w L.B (cellsV (L.l.map (·.2)))
  cap : L.l.length ≤ L.c
  top : L.c ≤ maxLen
  dap : L.l.length ≤ L.d
  dop : L.d ≤ maxLen
  mo : ∀ p ∈ L.l, OkT N w p.1
  vk : ∀ p ∈ L.l, p.2.Inp (fun b => b < N) w
theorem OkT.keep {N : Nat} {w w' : World} {x : Ck} (h : OkT N w x) (hb : Below N w w') : OkT N w' x := V4.Ck.Inp.keep h fun b hlt => hb.block b hlt
theorem LnT.In.keep {N : Nat} {w w' : World} {L : LnT} (h : L.In N w) (hb : Below N w w') : L.In N w' :=
  ⟨h.ml.keep fun b hlt => hb.block b hlt, h.vl.keep fun b hlt => hb.block b hlt, h.cap, h.top, h.dap, h.dop, fun p hp => (h.mo p hp).keep hb, fun p hp => (h.vk p hp).keep fun b hlt => hb.block b hlt⟩

set_option maxHeartbeats 1000000 in
theorem lowerT_any (L K : LnT) (N : Nat) (w : World) (hL : L.In N w) (hK : K.In N w) (hN : N ≤ w.heap.size) :
    Calls Tryz.prog 98 #[.slice L.A L.l.length L.c, .slice K.A K.l.length K.c, .func (.func 71) #[] #[]] w (RetV w (.int .i64 (lowI cmpTT L.l K.l))) := by
  obtain ⟨A, c, B, d, l⟩ := L
  obtain ⟨A', c', B', d', l'⟩ := K
  have htop := hL.top
  have htop' := hK.top
  have hcap := hL.cap
  have hcap' := hK.cap
  unfold maxLen at htop htop'
  dsimp only at htop htop' hcap hcap' ⊢
  cases l' with
  | nil =>
    clear hL hK
    rw [show lowI cmpTT l [] = -1 by cases l <;> rfl]
    go_enter Tryz.func98, Tryz.ntmps98
    go_wp2_with fail
    go_ret
    exact ⟨rfl, Below.refl _ _⟩
  | cons y l' =>
    cases l with
    | nil =>
      clear hL hK
      rw [show lowI cmpTT [] (y :: l') = 1 from rfl]
      go_enter Tryz.func98, Tryz.ntmps98
      go_wp2_with fail
      go_ret
      exact ⟨rfl, Below.refl _ _⟩
    | cons x l =>
      obtain ⟨b, off, rfl, hb, hc⟩ := hL.ml.get (k := 0) (by simp)
      obtain ⟨b', off', rfl, hb', hc'⟩ := hK.ml.get (k := 0) (by simp)
      have c0 : w.cell? ⟨b, off, none⟩ = some (encT x.1) := hc 0 _ rfl
      have d0 : w.cell? ⟨b', off', none⟩ = some (encT y.1) := hc' 0 _ rfl
      have HX := Lib.hid (show OkT w.heap.size w x.1 from (hL.mo x (by simp)).mono fun _ h => Nat.lt_of_lt_of_le h hN)
      have HY := Lib.hid (show OkT w.heap.size w y.1 from (hK.mo y (by simp)).mono fun _ h => Nat.lt_of_lt_of_le h hN)
      have HC : Hid (∀ w2, Below w.heap.size w w2 → Calls Tryz.prog 71 #[encT x.1, encT y.1] w2 (RetV w2 (.int .i64 (cmpTT x.1 y.1)))) := fun w2 hb2 => byTicks_any x.1.A y.1.A x.1.c y.1.c x.1.l y.1.l w2 ((V4.Ck.Inp.keep HX.out fun b h => hb2.block b h).mono fun _ h => Nat.lt_of_lt_of_le h hb2.size).inn ((V4.Ck.Inp.keep HY.out fun b h => hb2.block b h).mono fun _ h => Nat.lt_of_lt_of_le h hb2.size).inn
      rw [show lowI cmpTT (x :: l) (y :: l') = cmpTT x.1 y.1 from rfl]
      obtain ⟨q, hq⟩ : ∃ q, cmpTT x.1 y.1 = q := ⟨_, rfl⟩
      rw [hq] at HC ⊢
      obtain ⟨u, hu⟩ : ∃ u, encT x.1 = u := ⟨_, rfl⟩
      obtain ⟨v, hv⟩ : ∃ v, encT y.1 = v := ⟨_, rfl⟩
      rw [hu] at HC c0
      rw [hv] at HC d0
      have k0 : (((y :: l').length : Int) == 0) = false := beq_eq_false_iff_ne.2 (by simp only [List.length_cons]; omega)
      have k1 : (((x :: l).length : Int) == 0) = false := beq_eq_false_iff_ne.2 (by simp only [List.length_cons]; omega)
      have k2 : 0 < (x :: l).length := by simp
      have k3 : 0 < (y :: l').length := by simp
      have hbb : b < w.heap.size := Nat.lt_of_lt_of_le hb hN
      have hbb' : b' < w.heap.size := Nat.lt_of_lt_of_le hb' hN
      generalize (x :: l).length = n1 at *
      generalize (y :: l').length = n2 at *
      clear hL hK hc hc' hq hu hv HX HY
      go_enter Tryz.func98, Tryz.ntmps98
      go_wp2_with fail
      go_region_held3 (fun w' => w'.cell? ⟨b, off, none⟩ = some u ∧ w'.cell? ⟨b', off', none⟩ = some v)
        (first
          | with_reducible exact ⟨c0, d0⟩
          | (refine ⟨?_, ?_⟩ <;> go_simp))
        (first
          | (go_at_call 71; refine (HC.out _ (C3.drewB w)).mono ?_; rintro e w4 ⟨rfl, hb4⟩; (have c0 := (hb4.cell (p := ⟨b, off, none⟩) hbb).trans c0; have d0 := (hb4.cell (p := ⟨b', off', none⟩) hbb').trans d0)))
      all_goals (
        go_wp2_with fail
        go_ret
        exact ⟨rfl, (C3.drewB w).trans hb4⟩)

theorem results_splitT {fn : Func} {u p q : Tmp} (h : fn.results = #[.tmp u, .cell p 29, .cell q 130]) (tmps : Array Value) (w : World) (g k : Nat) (v0 v1 v2 v3 v4 u0 u1 : Value) (hp : tmps.getD p undef = .pointer (some ⟨g, 0, none⟩)) (hq : tmps.getD q undef = .pointer (some ⟨k, 0, none⟩))
    (h0 : w.cell? ⟨g, 0, none⟩ = some v0) (h1 : w.cell? ⟨g, 1, none⟩ = some v1) (h2 : w.cell? ⟨g, 2, none⟩ = some v2) (h3 : w.cell? ⟨g, 3, none⟩ = some v3) (h4 : w.cell? ⟨g, 4, none⟩ = some v4) (g0 : w.cell? ⟨k, 0, none⟩ = some u0) (g1 : w.cell? ⟨k, 1, none⟩ = some u1) : (results fn tmps).run Tryz.prog w = .ok (.tuple #[tmps.getD u undef, .agg #[v0, v1, v2, v3, v4], .agg #[u0, u1]]) w := by
  have hp' : tmps[p]?.getD undef = .pointer (some ⟨g, 0, none⟩) := by simpa using hp
  have hq' : tmps[q]?.getD undef = .pointer (some ⟨k, 0, none⟩) := by simpa using hq
  simp [results, h, hp', hq', asAddr]
  go_simp

/-- What split answers. -/
def RetSpT (N c d : Nat) (x : Ck × Vl) (l : List (Ck × Vl)) (w : World) (e : Ending) (w' : World) : Prop :=
  ∃ A' B', e = .returned (.tuple #[encT x.1, x.2.val, .agg #[.slice A' l.length (c - 1), .slice B' l.length (d - 1)]]) ∧ (LnT.mk A' (c - 1) B' (d - 1) l).In N w' ∧ Below w.heap.size w w'

set_option maxRecDepth 100000 in
set_option maxHeartbeats 2000000 in
theorem splitT_any (A B : Option Addr) (c d : Nat) (x : Ck × Vl) (l : List (Ck × Vl)) (N : Nat) (w : World) (hL : (LnT.mk A c B d (x :: l)).In N w) (hN : N ≤ w.heap.size) :
    Calls Tryz.prog 99 #[.agg #[.slice A (x :: l).length c, .slice B (x :: l).length d]] w (RetSpT N c d x l w) := by
  have htop := hL.top
  have hcap := hL.cap
  have hdop := hL.dop
  have hdap := hL.dap
  unfold maxLen at htop hdop
  dsimp only at htop hcap hdop hdap
  have hml := hL.ml
  have hvl := hL.vl
  dsimp only at hml hvl
  obtain ⟨b, off, rfl, hb, hc⟩ := hml.get (k := 0) (by simp)
  have c0 : w.cell? ⟨b, off, none⟩ = some (encT x.1) := hc 0 _ rfl
  obtain ⟨b', off', rfl, hb', e0, e1, e2, e3, e4⟩ := V4.value_at hvl (k := 0) (x := x.2) rfl
  rw [Nat.zero_mul, Nat.add_zero] at e0 e1 e2 e3 e4
  have htl : LiesC (fun b => b < N) w (some ⟨b, off + 1, none⟩) (l.map fun p => encT p.1) := LiesC.tail (u := [encT x.1]) hml
  have htv : LiesC (fun b => b < N) w (some ⟨b', off' + 5, none⟩) (cellsV (l.map (·.2))) := LiesC.tail (u := V4.cells5 x.2) (by rw [show V4.cells5 x.2 ++ cellsV (l.map (·.2)) = cellsV ((x :: l).map (·.2)) by simp [cellsV, V4.cells5]]; exact hvl)
  have HE : Hid (∀ (A' B' : Option Addr) (w' : World), (A' = some ⟨b, off + 1, none⟩ ∨ l = []) → (B' = some ⟨b', off' + 5, none⟩ ∨ l = []) → Below w.heap.size w w' → RetSpT N c d x l w (.returned (.tuple #[encT x.1, x.2.val, .agg #[.slice A' l.length (c - 1), .slice B' l.length (d - 1)]])) w') := by
    intro A' B' w' hA hB hbw
    refine ⟨A', B', rfl, ?_, hbw⟩
    have h1 : (LnT.mk A' (c - 1) B' (d - 1) l).In N w := by
      refine ⟨?_, ?_, ?_, ?_, ?_, ?_, fun p hp => hL.mo p (by simp [hp]), fun p hp => hL.vk p (by simp [hp])⟩
      · rcases hA with rfl | rfl
        · exact htl
        · exact .inl rfl
      · rcases hB with rfl | rfl
        · exact htv
        · exact .inl rfl
      · simp only [List.length_cons] at hcap ⊢; omega
      · unfold maxLen; show _ - 1 ≤ _; omega
      · simp only [List.length_cons] at hdap ⊢; omega
      · unfold maxLen; show _ - 1 ≤ _; omega
    exact h1.keep (hbw.mono hN)
  clear hL hml hvl hc htl htv
  obtain ⟨xm, xn, xM, xsA, xsc, xss, xcA, xcc, xcs, xvA, xvc, xvs⟩ := x
  simp only [val_mk, List.length_cons] at HE e0 e1 e2 e3 e4 hcap hdap c0 ⊢
  simp only [V4.Vl.n, V4.Vl.m, V4.Vl.s1, V4.Vl.c1, V4.Vl.v1] at e0 e1 e2 e3 e4
  obtain ⟨u, hu⟩ : ∃ u, encT xm = u := ⟨_, rfl⟩
  rw [hu] at HE c0
  clear hu
  have HLL : Hid (l.length = 0 → l = []) := List.eq_nil_of_length_eq_zero
  obtain ⟨n, hn⟩ : ∃ n, l.length = n := ⟨_, rfl⟩
  simp only [hn] at HE HLL hcap hdap ⊢
  clear hn
  have hbb : b < w.heap.size := Nat.lt_of_lt_of_le hb hN
  have hbb' : b' < w.heap.size := Nat.lt_of_lt_of_le hb' hN
  clear hb hb' hN
  obtain ⟨V, hV⟩ : ∃ V, ((w.alloc (.cells #[.slice (some ⟨b, off, none⟩) (n + 1) c, .slice (some ⟨b', off', none⟩) (n + 1) d] 130)).alloc (.cells #[.int .u64 0, .int .u64 0, .slice none 0 0, .slice none 0 0, .slice none 0 0] 29)).alloc (.cells #[.slice none 0 0, .slice none 0 0] 130) = V := ⟨_, rfl⟩
  have hbV : Below w.heap.size w V := by rw [← hV]; exact belAl (belAl (belAl (Below.refl _ _)))
  have c0 := (hbV.cell (p := ⟨b, off, none⟩) hbb).trans c0
  have e0 := (hbV.cell (p := ⟨b', off', none⟩) hbb').trans e0
  have e1 := (hbV.cell (p := ⟨b', off' + 1, none⟩) hbb').trans e1
  have e2 := (hbV.cell (p := ⟨b', off' + 2, none⟩) hbb').trans e2
  have e3 := (hbV.cell (p := ⟨b', off' + 3, none⟩) hbb').trans e3
  have e4 := (hbV.cell (p := ⟨b', off' + 4, none⟩) hbb').trans e4
  have k0 : V.cell? ⟨w.heap.size, 0, none⟩ = some (.slice (some ⟨b, off, none⟩) (n + 1) c) := by rw [← hV]; exact alloc3_0 0 _ rfl
  have k1 : V.cell? ⟨w.heap.size, 1, none⟩ = some (.slice (some ⟨b', off', none⟩) (n + 1) d) := by rw [← hV]; exact alloc3_0 1 _ rfl
  have hv1 : V.heap[w.heap.size + 1]? = some (.cells #[.int .u64 0, .int .u64 0, .slice none 0 0, .slice none 0 0, .slice none 0 0] 29 (0, 0)) := by
    rw [← hV]; have := World.alloc_heap_new (w.alloc (.cells #[.slice (some ⟨b, off, none⟩) (n + 1) c, .slice (some ⟨b', off', none⟩) (n + 1) d] 130)) (.cells #[.int .u64 0, .int .u64 0, .slice none 0 0, .slice none 0 0, .slice none 0 0] 29); rw [World.size_alloc] at this; exact (Below.heap_alloc _ _ _ (by simp)).trans this
  have hv2 : V.heap[w.heap.size + 1 + 1]? = some (.cells #[.slice none 0 0, .slice none 0 0] 130 (0, 0)) := by
    rw [← hV]; have := World.alloc_heap_new ((w.alloc (.cells #[.slice (some ⟨b, off, none⟩) (n + 1) c, .slice (some ⟨b', off', none⟩) (n + 1) d] 130)).alloc (.cells #[.int .u64 0, .int .u64 0, .slice none 0 0, .slice none 0 0, .slice none 0 0] 29)) (.cells #[.slice none 0 0, .slice none 0 0] 130); rw [World.size_alloc, World.size_alloc] at this; exact this
  have b0 : V.cell? ⟨w.heap.size + 1, 0, none⟩ = some (.int .u64 0) := blk_cell hv1 0 _ rfl
  have b1 : V.cell? ⟨w.heap.size + 1, 1, none⟩ = some (.int .u64 0) := blk_cell hv1 1 _ rfl
  have b2 : V.cell? ⟨w.heap.size + 1, 2, none⟩ = some (.slice none 0 0) := blk_cell hv1 2 _ rfl
  have b3 : V.cell? ⟨w.heap.size + 1, 3, none⟩ = some (.slice none 0 0) := blk_cell hv1 3 _ rfl
  have b4 : V.cell? ⟨w.heap.size + 1, 4, none⟩ = some (.slice none 0 0) := blk_cell hv1 4 _ rfl
  have f0 := blk_frozen hv1 0
  have f1 := blk_frozen hv1 1
  have f2 := blk_frozen hv1 2
  have f3 := blk_frozen hv1 3
  have f4 := blk_frozen hv1 4
  have l0 : V.cell? ⟨w.heap.size + 1 + 1, 0, none⟩ = some (.slice none 0 0) := blk_cell hv2 0 _ rfl
  have l1 : V.cell? ⟨w.heap.size + 1 + 1, 1, none⟩ = some (.slice none 0 0) := blk_cell hv2 1 _ rfl
  have m0 := blk_frozen hv2 0
  have m1 := blk_frozen hv2 1
  have HB := Lib.hid hbV
  have n1 : b ≠ w.heap.size + 1 := by omega
  have n2 : b ≠ w.heap.size + 1 + 1 := by omega
  have n3 : b' ≠ w.heap.size + 1 := by omega
  have n4 : b' ≠ w.heap.size + 1 + 1 := by omega
  clear hv1 hv2 hbV
  have HS : Hid (∀ v0 v1 v2 v3 v4 u0 u1, Below w.heap.size w ((((((((V.setCell ⟨w.heap.size + 1, 0, none⟩ v0).setCell ⟨w.heap.size + 1, 1, none⟩ v1).setCell ⟨w.heap.size + 1, 2, none⟩ v2).setCell ⟨w.heap.size + 1, 3, none⟩ v3).setCell ⟨w.heap.size + 1, 4, none⟩ v4).setCell ⟨w.heap.size + 1 + 1, 0, none⟩ u0).setCell ⟨w.heap.size + 1 + 1, 1, none⟩ u1).drew)) := fun v0 v1 v2 v3 v4 u0 u1 =>
    (((((((HB.out.setCell (by simp) _).setCell (by simp) _).setCell (by simp) _).setCell (by simp) _).setCell (by simp) _).setCell (by simp; omega) _).setCell (by simp; omega) _).drew
  have q1 : 1 ≤ c := by omega
  have q2 : 1 ≤ d := by omega
  go_enter Tryz.func99, Tryz.ntmps99
  go_wp2_with fail
  go_region
  obtain ⟨A2, hA2⟩ : ∃ A2 : Option Addr, (if c = 1 then some ⟨b, off, none⟩ else some ⟨b, off + 1, none⟩) = A2 := ⟨_, rfl⟩
  obtain ⟨B2, hB2⟩ : ∃ B2 : Option Addr, (if d = 1 then some ⟨b', off', none⟩ else some ⟨b', off' + 5, none⟩) = B2 := ⟨_, rfl⟩
  simp only [hA2, hB2]
  have HA2 : Hid (A2 = some ⟨b, off + 1, none⟩ ∨ l = []) := by
    show _ ∨ _
    rw [← hA2]
    split
    · exact .inr (HLL.out (by omega))
    · exact .inl rfl
  have HB2 : Hid (B2 = some ⟨b', off' + 5, none⟩ ∨ l = []) := by
    show _ ∨ _
    rw [← hB2]
    split
    · exact .inr (HLL.out (by omega))
    · exact .inl rfl
  clear hA2 hB2
  go_wp2_with fail
  refine bodyPost_ret (results_splitT rfl _ _ (w.heap.size + 1) (w.heap.size + 1 + 1) (.int .u64 xn) (.int .u64 xM) (.slice xsA xss.length xsc) (.slice xcA xcs.length xcc) (.slice xvA xvs.length xvc) (.slice A2 n (c - 1)) (.slice B2 n (d - 1)) rfl rfl (by go_simp) (by go_simp) (by go_simp) (by go_simp) (by go_simp) (by go_simp) (by go_simp)) rfl ?_
  exact HE.out _ _ _ HA2.out HB2.out (HS.out _ _ _ _ _ _ _)
end Go.Proofs.YtdbohojncbeajaaGreat.J5
