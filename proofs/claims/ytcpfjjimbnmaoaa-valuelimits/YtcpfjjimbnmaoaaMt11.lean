/- What Rises does, of the reference, and rises, of the program. No condition but that the slices read as strings. What the reference's is and Is do. No condition but that what they take lies in memory. -/
import Derived.Test.YtcpfjjimbnmaoaaRows
import Derived.Test.YtcpfjjimbnmaoaaMt08
import Derived.Test.YtcpfjjimbnmaoaaMt10
namespace Go.Proofs.Ytcpfjjimbnmaoaa.R1
open Go.RowKit

set_option maxHeartbeats 400000 in
theorem refRises_any (A : Option Addr) (c : Nat) (xs : List Str) (w : World) (hl : Lies w A xs) (hn : xs.length ≤ maxLen) :
    Calls Try.prog 48 #[.slice A xs.length c] w fun e w' => e = .returned (.bool (decide (Srt xs))) ∧ ∃ n, w' = w.drewN n := by
  unfold maxLen at hn
  go_enter Try.func48, Try.ntmps48
  go_wp2
  go_loopw [3] (fun i wr => ∃ k n : Nat, (k + 1 ≤ xs.length ∨ k = 0) ∧ i = .int .i64 (k + 1 : Nat) ∧ wr = w.drewN n ∧ Hid (Srt (xs.take (k + 1)))) (fun i _ => xs.length - (intOf i).toNat)
  case atStart => exact ⟨0, 0, .inr rfl, rfl, rfl, srt_take_one xs⟩
  case round =>
    obtain ⟨k, n, hk, rfl, rfl, h0⟩ := hrel
    by_cases hlt : k + 1 < xs.length
    · obtain ⟨b, off, rfl, hb, hc⟩ := hl.get hlt
      obtain ⟨x, hx⟩ : ∃ x, xs[k]? = some x := ⟨_, List.getElem?_eq_getElem (by omega)⟩
      obtain ⟨y, hy⟩ : ∃ x, xs[k + 1]? = some x := ⟨_, List.getElem?_eq_getElem hlt⟩
      have hcx := hc k x hx
      have hcy := hc (k + 1) y hy
      have HX := Lib.hid hx
      have HY := Lib.hid hy
      clear hx hy hc hl
      by_cases hxy : x < y
      · have hb2 := bl_true hxy
        have HN := Lib.hid hxy
        clear hxy
        go_wp2
        go_quiet (fail)
        go_wp2
        go_roundw
        case rel => exact ⟨k + 1, _, by omega, by go_num, rfl, srt_snoc h0.out HX.out HY.out HN.out⟩
        case measure => simp [intOf]; omega
      · have hb2 := bl_false hxy
        have HN := Lib.hid hxy
        clear hxy
        go_wp2
        go_quiet (fail)
        go_wp2
        go_ret
        exact ⟨ret_bool (decide_eq_false (srt_no HX.out HY.out HN.out)).symm, drew2 _ _ _⟩
    · go_wp2
      go_ret
      exact ⟨ret_bool (decide_eq_true (srt_all h0.out (by omega))).symm, _, rfl⟩

set_option maxHeartbeats 400000 in
theorem rises_any (A : Option Addr) (c : Nat) (xs : List Str) (w : World) (hl : Lies w A xs) (hn : xs.length ≤ maxLen) :
    Calls Try.prog 88 #[.slice A xs.length c] w fun e w' => e = .returned (.bool (decide (Srt xs))) ∧ ∃ n, w' = w.drewN n := by
  unfold maxLen at hn
  go_enter Try.func88, Try.ntmps88
  go_wp2
  go_loopw [3] (fun i wr => ∃ k n : Nat, (k + 1 ≤ xs.length ∨ k = 0) ∧ i = .int .i64 (k + 1 : Nat) ∧ wr = w.drewN n ∧ Hid (Srt (xs.take (k + 1)))) (fun i _ => xs.length - (intOf i).toNat)
  case atStart => exact ⟨0, 0, .inr rfl, rfl, rfl, srt_take_one xs⟩
  case round =>
    obtain ⟨k, n, hk, rfl, rfl, h0⟩ := hrel
    by_cases hlt : k + 1 < xs.length
    · obtain ⟨b, off, rfl, hb, hc⟩ := hl.get hlt
      obtain ⟨x, hx⟩ : ∃ x, xs[k]? = some x := ⟨_, List.getElem?_eq_getElem (by omega)⟩
      obtain ⟨y, hy⟩ : ∃ x, xs[k + 1]? = some x := ⟨_, List.getElem?_eq_getElem hlt⟩
      have hcx := hc k x hx
      have hcy := hc (k + 1) y hy
      have HX := Lib.hid hx
      have HY := Lib.hid hy
      clear hx hy hc hl
      by_cases hxy : x < y
      · have hb2 := bl_false (str_asymm hxy)
        have hb3 := beq_str (fun e : y = x => str_irrefl x (e ▸ hxy))
        have HN := Lib.hid hxy
        clear hxy
        go_wp2
        go_quiet (fail)
        go_wp2
        go_roundw
        case rel => exact ⟨k + 1, _, by omega, by go_num, rfl, srt_snoc h0.out HX.out HY.out HN.out⟩
        case measure => simp [intOf]; omega
      · have hb2 : (Op.bytesLess y x || y == x) = true := by
          rcases str_tri x y with h | h | h
          · exact absurd h hxy
          · subst h; simp
          · rw [bl_true h]; rfl
        have HN := Lib.hid hxy
        clear hxy
        go_wp2
        go_quiet (fail)
        go_wp2
        go_ret
        exact ⟨ret_bool (decide_eq_false (srt_no HX.out HY.out HN.out)).symm, drew2 _ _ _⟩
    · go_wp2
      go_ret
      exact ⟨ret_bool (decide_eq_true (srt_all h0.out (by omega))).symm, _, rfl⟩

set_option maxHeartbeats 400000 in
theorem is_any (A : Option Addr) (c : Nat) (xs : List Str) (w : World) (hl : Lies w A xs) (hn : xs.length ≤ maxLen) :
    Calls Try.prog 76 #[.slice A xs.length c] w fun e w' => e = .returned (.bool (decide (Srt xs))) ∧ ∃ n, w' = w.drewN n := by
  go_enter Try.func76, Try.ntmps76
  go_wp2_with fail
  refine (rises_any A c xs w hl hn).mono ?_
  rintro e w' ⟨rfl, n, rfl⟩
  go_wp2
  go_ret
  exact ⟨rfl, n, rfl⟩
end Go.Proofs.Ytcpfjjimbnmaoaa.R1

namespace Go.Proofs.Ytcpfjjimbnmaoaa.V4
open Go.RowKit
open C3 (Tk Asc isC ofC cmpC Nok In belAl allocB drewB RetT)
open S2 (Tr Sc isT)

def baseV (k : Int) (x : Va) : Bool := fitsV k x && (decide (R1.Srt x.s) && decide (x.s.length ≤ 40))
def mapV (p : Va → Bool) (bot : Va) (vs : List Va) : Bool := vs.all fun y => p y && !decide (y = bot)
def clockV (cs : List (List Tk)) : Bool := match cs with
  | [] => true
  | c :: _ => isC c && decide (0 < c.length)
def pairV (p q : Va → Bool) (vs : List Va) : Bool := match vs with
  | y :: z :: _ => p y && q z
  | _ => false

/-- A value by a schema. -/
def isV : Tr → Va → Bool
  | .mk k [], x => baseV k x && (if k = 7 then clockV x.c else true)
  | .mk k [a], x => baseV k x && (if k = 4 then mapV (isV a) (botT a) x.v else sibsV (isV a) x)
  | .mk k [a, b], x => baseV k x && pairV (isV a) (isV b) x.v
  | .mk _ (_ :: _ :: _ :: _), _ => false

/-- The cells of the two boxes. -/
structure Boxes (w : World) (k : Int) (A : Option Addr) (ln c : Nat) (n m : Int) (sA : Option Addr) (sn sc : Nat) (cA : Option Addr) (cn cc : Nat) (vA : Option Addr) (vn vc : Nat) (W : World) : Prop where
  i0 : W.cell? ⟨w.heap.size, 0, none⟩ = some (.int .i64 k)
  i1 : W.cell? ⟨w.heap.size, 1, none⟩ = some (.slice A ln c)
  c0 : W.cell? ⟨w.heap.size + 1, 0, none⟩ = some (.int .u64 n)
  c1 : W.cell? ⟨w.heap.size + 1, 1, none⟩ = some (.int .u64 m)
  c2 : W.cell? ⟨w.heap.size + 1, 2, none⟩ = some (.slice sA sn sc)
  c3 : W.cell? ⟨w.heap.size + 1, 3, none⟩ = some (.slice cA cn cc)
  c4 : W.cell? ⟨w.heap.size + 1, 4, none⟩ = some (.slice vA vn vc)
  sz : w.heap.size + 1 < W.heap.size
  bel : Below w.heap.size w W

theorem Boxes.later {w : World} {k : Int} {A : Option Addr} {ln c : Nat} {n m : Int} {sA : Option Addr} {sn sc : Nat} {cA : Option Addr} {cn cc : Nat} {vA : Option Addr} {vn vc : Nat} {W W' : World} (h : Boxes w k A ln c n m sA sn sc cA cn cc vA vn vc W) (hb : Below W.heap.size W W') :
    Boxes w k A ln c n m sA sn sc cA cn cc vA vn vc W' := by
  have h0 : w.heap.size < W.heap.size := by have := h.sz; omega
  exact ⟨(hb.cell (p := ⟨w.heap.size, 0, none⟩) h0).trans h.i0, (hb.cell (p := ⟨w.heap.size, 1, none⟩) h0).trans h.i1, (hb.cell (p := ⟨w.heap.size + 1, 0, none⟩) h.sz).trans h.c0, (hb.cell (p := ⟨w.heap.size + 1, 1, none⟩) h.sz).trans h.c1, (hb.cell (p := ⟨w.heap.size + 1, 2, none⟩) h.sz).trans h.c2,
    (hb.cell (p := ⟨w.heap.size + 1, 3, none⟩) h.sz).trans h.c3, (hb.cell (p := ⟨w.heap.size + 1, 4, none⟩) h.sz).trans h.c4, Nat.lt_of_lt_of_le h.sz hb.size, h.bel.trans (hb.mono h.bel.size)⟩

/-- A schema and a value in their rows. -/
structure Row2 (b off : Nat) (a : Sc) (b2 o2 : Nat) (y : Vl) (W : World) : Prop where
  s0 : W.cell? ⟨b, off, none⟩ = some (.int .i64 a.k)
  s1 : W.cell? ⟨b, off + 1, none⟩ = some a.v1
  y0 : W.cell? ⟨b2, o2, none⟩ = some (.int .u64 y.n)
  y1 : W.cell? ⟨b2, o2 + 1, none⟩ = some (.int .u64 y.m)
  y2 : W.cell? ⟨b2, o2 + 2, none⟩ = some y.s1
  y3 : W.cell? ⟨b2, o2 + 3, none⟩ = some y.c1
  y4 : W.cell? ⟨b2, o2 + 4, none⟩ = some y.v1
  l1 : b < W.heap.size
  l2 : b2 < W.heap.size
  ia : a.In W.heap.size W
  iy : y.In W
theorem Row2.later {b off : Nat} {a : Sc} {b2 o2 : Nat} {y : Vl} {W W' : World} (h : Row2 b off a b2 o2 y W) (hb : Below W.heap.size W W') : Row2 b off a b2 o2 y W' :=
  ⟨(hb.cell (p := ⟨b, off, none⟩) h.l1).trans h.s0, (hb.cell (p := ⟨b, off + 1, none⟩) h.l1).trans h.s1, (hb.cell (p := ⟨b2, o2, none⟩) h.l2).trans h.y0, (hb.cell (p := ⟨b2, o2 + 1, none⟩) h.l2).trans h.y1, (hb.cell (p := ⟨b2, o2 + 2, none⟩) h.l2).trans h.y2, (hb.cell (p := ⟨b2, o2 + 3, none⟩) h.l2).trans h.y3, (hb.cell (p := ⟨b2, o2 + 4, none⟩) h.l2).trans h.y4,
    Nat.lt_of_lt_of_le h.l1 hb.size, Nat.lt_of_lt_of_le h.l2 hb.size, h.ia.later hb, h.iy.later hb⟩

theorem refFits_at (k : Int) (A : Option Addr) (c ln : Nat) (n m : Int) (sA : Option Addr) (sc : Nat) (ss : List Str) (cA : Option Addr) (cc : Nat) (cs : List Ck) (vA : Option Addr) (vc : Nat) (vs : List Vl) (v : Bool) (w : World) (h : (Vl.mk n m sA sc ss cA cc cs vA vc vs).In w) (hv : fitsV k (Vl.mk n m sA sc ss cA cc cs vA vc vs).er = v) :
    Calls Try.prog 47 #[.agg #[.int .i64 k, .slice A ln c], .agg #[.int .u64 n, .int .u64 m, .slice sA ss.length sc, .slice cA cs.length cc, .slice vA vs.length vc]] w (RetV w (.bool v)) := hv ▸ refFits_any k A c ln _ w h
theorem refRises_at (A : Option Addr) (c : Nat) (xs : List Str) (v : Bool) (w : World) (hl : Lies w A xs) (hn : xs.length ≤ maxLen) (hv : decide (R1.Srt xs) = v) :
    Calls Try.prog 48 #[.slice A xs.length c] w (RetV w (.bool v)) := hv ▸ (R1.refRises_any A c xs w hl hn).mono fun _ _ ⟨h1, n, h2⟩ => ⟨h1, h2 ▸ below_drewN (Below.refl _ _) n⟩

theorem all_no {α : Type} {p : α → Bool} {l : List α} {k : Nat} {x : α} (hx : l[k]? = some x) (h : p x = false) : l.all p = false := all_fail hx h

set_option maxRecDepth 100000 in
set_option maxHeartbeats 4000000 in
theorem refIsV_1 (A : Option Addr) (c : Nat) (x : Vl) (w : World) (hx : x.In w) : Calls Try.prog 26 #[(Sc.mk 1 A c []).val, x.val] w (RetV w (.bool (baseV 1 x.er && true))) := by
  obtain ⟨n, m, sA, sc, ss, cA, cc, cs, vA, vc, vs⟩ := x
  have HB0 : Hid (Below w.heap.size w ((w.alloc (.cells #[.int .i64 1, .slice A 0 c] 24)).alloc (.cells #[.int .u64 n, .int .u64 m, .slice sA ss.length sc, .slice cA cs.length cc, .slice vA vs.length vc] 30))) := belAl (allocB _ _)
  have HX := Lib.hid (hx.later HB0.out)
  have P := hx.out
  have HP := Lib.hid P
  have HSB : Hid (ss.length ≤ maxLen) := Nat.le_trans P.sb.1 P.sb.2.1
  have hsm : ss.length ≤ 9223372036854775807 := by have := P.sb; unfold maxLen at this; omega
  have hcm : cs.length ≤ 9223372036854775807 := by have := P.cb; unfold maxLen at this; omega
  have hvm : vs.length ≤ 9223372036854775807 := by have := P.vb; unfold maxLen at this; omega
  obtain ⟨t, ht⟩ : ∃ z, fitsV 1 (Vl.mk n m sA sc ss cA cc cs vA vc vs).er = z := ⟨_, rfl⟩
  obtain ⟨u, hu⟩ : ∃ z, decide (R1.Srt ss) = z := ⟨_, rfl⟩
  obtain ⟨q, hq⟩ : ∃ z, decide (ss.length ≤ 40) = z := ⟨_, rfl⟩
  have HF : Hid (baseV 1 (Vl.mk n m sA sc ss cA cc cs vA vc vs).er = (t && (u && q))) := by
    show baseV _ _ = _
    unfold baseV
    rw [ht, er_mk, show (Va.mk n m ss (cs.map Ck.l) (vs.map Vl.er)).s = ss from rfl, hu, hq]
  have HT := Lib.hid ht
  have HU := Lib.hid hu
  have HQ := Lib.hid hq
  rw [HF.out]
  clear hx P ht hu hq HF
  simp only [S2.val_mk, val_mk, List.length_nil]
  go_enter Try.func26, Try.ntmps26
  go_wp2_with fail
  refine (refFits_at 1 A c 0 n m sA sc ss cA cc cs vA vc vs t _ HX.out HT.out).mono ?_
  rintro e w1 ⟨rfl, hb1⟩
  have HBX : Hid (Boxes w 1 A 0 c n m sA ss.length sc cA cs.length cc vA vs.length vc w1) := Boxes.later ⟨by go_simp, by go_simp, by go_simp, by go_simp, by go_simp, by go_simp, by go_simp, by simp, HB0.out⟩ hb1
  clear hb1 HB0 HX
  cases t with
  | false =>
    go_wp2_with fail
    go_ret
    exact ⟨rfl, HBX.out.bel⟩
  | true =>
    have c2 := HBX.out.c2
    go_wp2_with fail
    refine (refRises_at sA sc ss u _ (HP.out.sl.below HBX.out.bel) HSB.out HU.out).mono ?_
    rintro e w2 ⟨rfl, hb2⟩
    replace HBX := Lib.hid (HBX.out.later hb2)
    clear hb2 c2
    cases u with
    | false =>
      go_wp2_with fail
      go_ret
      exact ⟨rfl, HBX.out.bel⟩
    | true =>
      have c2 := HBX.out.c2
      have i0 := HBX.out.i0
      cases q with
      | false =>
        have dq : 40 < ss.length := by have := of_decide_eq_false HQ.out; omega
        go_wp2_with fail
        go_ret
        exact ⟨rfl, HBX.out.bel⟩
      | true =>
        have dq : decide (40 < (ss.length : Int)) = false := decide_eq_false (by have := of_decide_eq_true HQ.out; omega)
        go_wp2_with fail
        go_ret
        exact ⟨rfl, HBX.out.bel⟩

set_option maxRecDepth 100000 in
set_option maxHeartbeats 4000000 in
theorem refIsV_2 (A : Option Addr) (c : Nat) (x : Vl) (w : World) (hx : x.In w) : Calls Try.prog 26 #[(Sc.mk 2 A c []).val, x.val] w (RetV w (.bool (baseV 2 x.er && true))) := by
  obtain ⟨n, m, sA, sc, ss, cA, cc, cs, vA, vc, vs⟩ := x
  have HB0 : Hid (Below w.heap.size w ((w.alloc (.cells #[.int .i64 2, .slice A 0 c] 24)).alloc (.cells #[.int .u64 n, .int .u64 m, .slice sA ss.length sc, .slice cA cs.length cc, .slice vA vs.length vc] 30))) := belAl (allocB _ _)
  have HX := Lib.hid (hx.later HB0.out)
  have P := hx.out
  have HP := Lib.hid P
  have HSB : Hid (ss.length ≤ maxLen) := Nat.le_trans P.sb.1 P.sb.2.1
  have hsm : ss.length ≤ 9223372036854775807 := by have := P.sb; unfold maxLen at this; omega
  have hcm : cs.length ≤ 9223372036854775807 := by have := P.cb; unfold maxLen at this; omega
  have hvm : vs.length ≤ 9223372036854775807 := by have := P.vb; unfold maxLen at this; omega
  obtain ⟨t, ht⟩ : ∃ z, fitsV 2 (Vl.mk n m sA sc ss cA cc cs vA vc vs).er = z := ⟨_, rfl⟩
  obtain ⟨u, hu⟩ : ∃ z, decide (R1.Srt ss) = z := ⟨_, rfl⟩
  obtain ⟨q, hq⟩ : ∃ z, decide (ss.length ≤ 40) = z := ⟨_, rfl⟩
  have HF : Hid (baseV 2 (Vl.mk n m sA sc ss cA cc cs vA vc vs).er = (t && (u && q))) := by
    show baseV _ _ = _
    unfold baseV
    rw [ht, er_mk, show (Va.mk n m ss (cs.map Ck.l) (vs.map Vl.er)).s = ss from rfl, hu, hq]
  have HT := Lib.hid ht
  have HU := Lib.hid hu
  have HQ := Lib.hid hq
  rw [HF.out]
  clear hx P ht hu hq HF
  simp only [S2.val_mk, val_mk, List.length_nil]
  go_enter Try.func26, Try.ntmps26
  go_wp2_with fail
  refine (refFits_at 2 A c 0 n m sA sc ss cA cc cs vA vc vs t _ HX.out HT.out).mono ?_
  rintro e w1 ⟨rfl, hb1⟩
  have HBX : Hid (Boxes w 2 A 0 c n m sA ss.length sc cA cs.length cc vA vs.length vc w1) := Boxes.later ⟨by go_simp, by go_simp, by go_simp, by go_simp, by go_simp, by go_simp, by go_simp, by simp, HB0.out⟩ hb1
  clear hb1 HB0 HX
  cases t with
  | false =>
    go_wp2_with fail
    go_ret
    exact ⟨rfl, HBX.out.bel⟩
  | true =>
    have c2 := HBX.out.c2
    go_wp2_with fail
    refine (refRises_at sA sc ss u _ (HP.out.sl.below HBX.out.bel) HSB.out HU.out).mono ?_
    rintro e w2 ⟨rfl, hb2⟩
    replace HBX := Lib.hid (HBX.out.later hb2)
    clear hb2 c2
    cases u with
    | false =>
      go_wp2_with fail
      go_ret
      exact ⟨rfl, HBX.out.bel⟩
    | true =>
      have c2 := HBX.out.c2
      have i0 := HBX.out.i0
      cases q with
      | false =>
        have dq : 40 < ss.length := by have := of_decide_eq_false HQ.out; omega
        go_wp2_with fail
        go_ret
        exact ⟨rfl, HBX.out.bel⟩
      | true =>
        have dq : decide (40 < (ss.length : Int)) = false := decide_eq_false (by have := of_decide_eq_true HQ.out; omega)
        go_wp2_with fail
        go_ret
        exact ⟨rfl, HBX.out.bel⟩

set_option maxRecDepth 100000 in
set_option maxHeartbeats 4000000 in
theorem refIsV_3 (A : Option Addr) (c : Nat) (x : Vl) (w : World) (hx : x.In w) : Calls Try.prog 26 #[(Sc.mk 3 A c []).val, x.val] w (RetV w (.bool (baseV 3 x.er && true))) := by
  obtain ⟨n, m, sA, sc, ss, cA, cc, cs, vA, vc, vs⟩ := x
  have HB0 : Hid (Below w.heap.size w ((w.alloc (.cells #[.int .i64 3, .slice A 0 c] 24)).alloc (.cells #[.int .u64 n, .int .u64 m, .slice sA ss.length sc, .slice cA cs.length cc, .slice vA vs.length vc] 30))) := belAl (allocB _ _)
  have HX := Lib.hid (hx.later HB0.out)
  have P := hx.out
  have HP := Lib.hid P
  have HSB : Hid (ss.length ≤ maxLen) := Nat.le_trans P.sb.1 P.sb.2.1
  have hsm : ss.length ≤ 9223372036854775807 := by have := P.sb; unfold maxLen at this; omega
  have hcm : cs.length ≤ 9223372036854775807 := by have := P.cb; unfold maxLen at this; omega
  have hvm : vs.length ≤ 9223372036854775807 := by have := P.vb; unfold maxLen at this; omega
  obtain ⟨t, ht⟩ : ∃ z, fitsV 3 (Vl.mk n m sA sc ss cA cc cs vA vc vs).er = z := ⟨_, rfl⟩
  obtain ⟨u, hu⟩ : ∃ z, decide (R1.Srt ss) = z := ⟨_, rfl⟩
  obtain ⟨q, hq⟩ : ∃ z, decide (ss.length ≤ 40) = z := ⟨_, rfl⟩
  have HF : Hid (baseV 3 (Vl.mk n m sA sc ss cA cc cs vA vc vs).er = (t && (u && q))) := by
    show baseV _ _ = _
    unfold baseV
    rw [ht, er_mk, show (Va.mk n m ss (cs.map Ck.l) (vs.map Vl.er)).s = ss from rfl, hu, hq]
  have HT := Lib.hid ht
  have HU := Lib.hid hu
  have HQ := Lib.hid hq
  rw [HF.out]
  clear hx P ht hu hq HF
  simp only [S2.val_mk, val_mk, List.length_nil]
  go_enter Try.func26, Try.ntmps26
  go_wp2_with fail
  refine (refFits_at 3 A c 0 n m sA sc ss cA cc cs vA vc vs t _ HX.out HT.out).mono ?_
  rintro e w1 ⟨rfl, hb1⟩
  have HBX : Hid (Boxes w 3 A 0 c n m sA ss.length sc cA cs.length cc vA vs.length vc w1) := Boxes.later ⟨by go_simp, by go_simp, by go_simp, by go_simp, by go_simp, by go_simp, by go_simp, by simp, HB0.out⟩ hb1
  clear hb1 HB0 HX
  cases t with
  | false =>
    go_wp2_with fail
    go_ret
    exact ⟨rfl, HBX.out.bel⟩
  | true =>
    have c2 := HBX.out.c2
    go_wp2_with fail
    refine (refRises_at sA sc ss u _ (HP.out.sl.below HBX.out.bel) HSB.out HU.out).mono ?_
    rintro e w2 ⟨rfl, hb2⟩
    replace HBX := Lib.hid (HBX.out.later hb2)
    clear hb2 c2
    cases u with
    | false =>
      go_wp2_with fail
      go_ret
      exact ⟨rfl, HBX.out.bel⟩
    | true =>
      have c2 := HBX.out.c2
      have i0 := HBX.out.i0
      cases q with
      | false =>
        have dq : 40 < ss.length := by have := of_decide_eq_false HQ.out; omega
        go_wp2_with fail
        go_ret
        exact ⟨rfl, HBX.out.bel⟩
      | true =>
        have dq : decide (40 < (ss.length : Int)) = false := decide_eq_false (by have := of_decide_eq_true HQ.out; omega)
        go_wp2_with fail
        go_ret
        exact ⟨rfl, HBX.out.bel⟩

set_option maxRecDepth 100000 in
set_option maxHeartbeats 4000000 in
theorem refIsV_6 (A : Option Addr) (c : Nat) (x : Vl) (w : World) (hx : x.In w) : Calls Try.prog 26 #[(Sc.mk 6 A c []).val, x.val] w (RetV w (.bool (baseV 6 x.er && true))) := by
  obtain ⟨n, m, sA, sc, ss, cA, cc, cs, vA, vc, vs⟩ := x
  have HB0 : Hid (Below w.heap.size w ((w.alloc (.cells #[.int .i64 6, .slice A 0 c] 24)).alloc (.cells #[.int .u64 n, .int .u64 m, .slice sA ss.length sc, .slice cA cs.length cc, .slice vA vs.length vc] 30))) := belAl (allocB _ _)
  have HX := Lib.hid (hx.later HB0.out)
  have P := hx.out
  have HP := Lib.hid P
  have HSB : Hid (ss.length ≤ maxLen) := Nat.le_trans P.sb.1 P.sb.2.1
  have hsm : ss.length ≤ 9223372036854775807 := by have := P.sb; unfold maxLen at this; omega
  have hcm : cs.length ≤ 9223372036854775807 := by have := P.cb; unfold maxLen at this; omega
  have hvm : vs.length ≤ 9223372036854775807 := by have := P.vb; unfold maxLen at this; omega
  obtain ⟨t, ht⟩ : ∃ z, fitsV 6 (Vl.mk n m sA sc ss cA cc cs vA vc vs).er = z := ⟨_, rfl⟩
  obtain ⟨u, hu⟩ : ∃ z, decide (R1.Srt ss) = z := ⟨_, rfl⟩
  obtain ⟨q, hq⟩ : ∃ z, decide (ss.length ≤ 40) = z := ⟨_, rfl⟩
  have HF : Hid (baseV 6 (Vl.mk n m sA sc ss cA cc cs vA vc vs).er = (t && (u && q))) := by
    show baseV _ _ = _
    unfold baseV
    rw [ht, er_mk, show (Va.mk n m ss (cs.map Ck.l) (vs.map Vl.er)).s = ss from rfl, hu, hq]
  have HT := Lib.hid ht
  have HU := Lib.hid hu
  have HQ := Lib.hid hq
  rw [HF.out]
  clear hx P ht hu hq HF
  simp only [S2.val_mk, val_mk, List.length_nil]
  go_enter Try.func26, Try.ntmps26
  go_wp2_with fail
  refine (refFits_at 6 A c 0 n m sA sc ss cA cc cs vA vc vs t _ HX.out HT.out).mono ?_
  rintro e w1 ⟨rfl, hb1⟩
  have HBX : Hid (Boxes w 6 A 0 c n m sA ss.length sc cA cs.length cc vA vs.length vc w1) := Boxes.later ⟨by go_simp, by go_simp, by go_simp, by go_simp, by go_simp, by go_simp, by go_simp, by simp, HB0.out⟩ hb1
  clear hb1 HB0 HX
  cases t with
  | false =>
    go_wp2_with fail
    go_ret
    exact ⟨rfl, HBX.out.bel⟩
  | true =>
    have c2 := HBX.out.c2
    go_wp2_with fail
    refine (refRises_at sA sc ss u _ (HP.out.sl.below HBX.out.bel) HSB.out HU.out).mono ?_
    rintro e w2 ⟨rfl, hb2⟩
    replace HBX := Lib.hid (HBX.out.later hb2)
    clear hb2 c2
    cases u with
    | false =>
      go_wp2_with fail
      go_ret
      exact ⟨rfl, HBX.out.bel⟩
    | true =>
      have c2 := HBX.out.c2
      have i0 := HBX.out.i0
      cases q with
      | false =>
        have dq : 40 < ss.length := by have := of_decide_eq_false HQ.out; omega
        go_wp2_with fail
        go_ret
        exact ⟨rfl, HBX.out.bel⟩
      | true =>
        have dq : decide (40 < (ss.length : Int)) = false := decide_eq_false (by have := of_decide_eq_true HQ.out; omega)
        go_wp2_with fail
        go_ret
        exact ⟨rfl, HBX.out.bel⟩

set_option maxRecDepth 100000 in
set_option maxHeartbeats 4000000 in
theorem refIsV_7 (A : Option Addr) (c : Nat) (x : Vl) (w : World) (hx : x.In w) : Calls Try.prog 26 #[(Sc.mk 7 A c []).val, x.val] w (RetV w (.bool (baseV 7 x.er && clockV x.er.c))) := by
  obtain ⟨n, m, sA, sc, ss, cA, cc, cs, vA, vc, vs⟩ := x
  have HB0 : Hid (Below w.heap.size w ((w.alloc (.cells #[.int .i64 7, .slice A 0 c] 24)).alloc (.cells #[.int .u64 n, .int .u64 m, .slice sA ss.length sc, .slice cA cs.length cc, .slice vA vs.length vc] 30))) := belAl (allocB _ _)
  have HX := Lib.hid (hx.later HB0.out)
  have P := hx.out
  have HP := Lib.hid P
  have HSB : Hid (ss.length ≤ maxLen) := Nat.le_trans P.sb.1 P.sb.2.1
  have hsm : ss.length ≤ 9223372036854775807 := by have := P.sb; unfold maxLen at this; omega
  have hcm : cs.length ≤ 9223372036854775807 := by have := P.cb; unfold maxLen at this; omega
  have hvm : vs.length ≤ 9223372036854775807 := by have := P.vb; unfold maxLen at this; omega
  obtain ⟨t, ht⟩ : ∃ z, fitsV 7 (Vl.mk n m sA sc ss cA cc cs vA vc vs).er = z := ⟨_, rfl⟩
  obtain ⟨u, hu⟩ : ∃ z, decide (R1.Srt ss) = z := ⟨_, rfl⟩
  obtain ⟨q, hq⟩ : ∃ z, decide (ss.length ≤ 40) = z := ⟨_, rfl⟩
  have HF : Hid (baseV 7 (Vl.mk n m sA sc ss cA cc cs vA vc vs).er = (t && (u && q))) := by
    show baseV _ _ = _
    unfold baseV
    rw [ht, er_mk, show (Va.mk n m ss (cs.map Ck.l) (vs.map Vl.er)).s = ss from rfl, hu, hq]
  have HT := Lib.hid ht
  have HU := Lib.hid hu
  have HQ := Lib.hid hq
  rw [HF.out]
  clear hx P ht hu hq HF
  simp only [S2.val_mk, val_mk, List.length_nil]
  go_enter Try.func26, Try.ntmps26
  go_wp2_with fail
  refine (refFits_at 7 A c 0 n m sA sc ss cA cc cs vA vc vs t _ HX.out HT.out).mono ?_
  rintro e w1 ⟨rfl, hb1⟩
  have HBX : Hid (Boxes w 7 A 0 c n m sA ss.length sc cA cs.length cc vA vs.length vc w1) := Boxes.later ⟨by go_simp, by go_simp, by go_simp, by go_simp, by go_simp, by go_simp, by go_simp, by simp, HB0.out⟩ hb1
  clear hb1 HB0 HX
  cases t with
  | false =>
    go_wp2_with fail
    go_ret
    exact ⟨rfl, HBX.out.bel⟩
  | true =>
    have c2 := HBX.out.c2
    go_wp2_with fail
    refine (refRises_at sA sc ss u _ (HP.out.sl.below HBX.out.bel) HSB.out HU.out).mono ?_
    rintro e w2 ⟨rfl, hb2⟩
    replace HBX := Lib.hid (HBX.out.later hb2)
    clear hb2 c2
    cases u with
    | false =>
      go_wp2_with fail
      go_ret
      exact ⟨rfl, HBX.out.bel⟩
    | true =>
      have c2 := HBX.out.c2
      have i0 := HBX.out.i0
      cases q with
      | false =>
        have dq : 40 < ss.length := by have := of_decide_eq_false HQ.out; omega
        go_wp2_with fail
        go_ret
        exact ⟨rfl, HBX.out.bel⟩
      | true =>
        have dq : decide (40 < (ss.length : Int)) = false := decide_eq_false (by have := of_decide_eq_true HQ.out; omega)
        have c3 := HBX.out.c3
        cases cs with
        | nil =>
          simp only [List.length_nil] at c3
          go_wp2_with fail
          go_ret
          exact ⟨ret_bool (by rw [er_mk]; rfl), HBX.out.bel⟩
        | cons x0 cs =>
          obtain ⟨b1, off1, rfl, hb1, hcx⟩ := clock_at (HP.out.cl.below HBX.out.bel) (k := 0) (x := x0) rfl
          have HIX := Lib.hid ((HP.out.ck x0 (by simp)).later HBX.out.bel)
          obtain ⟨xA, xc, xl⟩ := x0
          simp only [Ck.v, Nat.add_zero] at hcx
          dsimp only at HIX
          simp only [List.length_cons] at c3 hcm
          have hl0 : (((cs.length : Int) + 1) == 0) = false := beq_eq_false_iff_ne.2 (by omega)
          have hl1 : 0 < (cs.length : Int) + 1 := by omega
          obtain ⟨v, hv⟩ : ∃ z, isC xl = z := ⟨_, rfl⟩
          have HV := Lib.hid hv
          have HR : Hid (clockV (Vl.mk n m sA sc ss (some ⟨b1, off1, none⟩) cc (⟨xA, xc, xl⟩ :: cs) vA vc vs).er.c = (v && decide (0 < xl.length))) := by show clockV _ = _; rw [er_mk, ← hv]; rfl
          clear hv
          go_wp2_with fail
          refine (refIsC_at xA xc xl v _ HIX.out HV.out).mono ?_
          rintro e w3 ⟨rfl, hb3⟩
          have hcx3 := (hb3.cell (p := ⟨b1, off1, none⟩) (Nat.lt_of_lt_of_le hb1 HBX.out.bel.size)).trans hcx
          replace HBX := Lib.hid (HBX.out.later hb3)
          clear hb3 hcx c3 c2 i0
          have c3 := HBX.out.c3
          simp only [List.length_cons] at c3
          cases v with
          | false =>
            go_wp2_with fail
            go_ret
            exact ⟨ret_bool (by rw [HR.out]; rfl), HBX.out.bel⟩
          | true =>
            have hxl : xl.length ≤ 9223372036854775807 := by have := HIX.out.cap; have := HIX.out.top; unfold maxLen at this; omega
            go_wp2_with fail
            go_ret
            refine ⟨ret_bool ?_, HBX.out.bel⟩
            rw [HR.out]
            simp

set_option maxRecDepth 100000 in
set_option maxHeartbeats 4000000 in
theorem refIsV_8 (A : Option Addr) (c : Nat) (a : Sc) (x : Vl) (w : World) (hs : (Sc.mk 8 A c [a]).In w.heap.size w) (hx : x.In w) (p : Va → Bool) (ih : ∀ (y : Vl) (w : World), a.In w.heap.size w → y.In w → Calls Try.prog 26 #[a.val, y.val] w (RetV w (.bool (p y.er)))) : Calls Try.prog 26 #[(Sc.mk 8 A c [a]).val, x.val] w (RetV w (.bool (baseV 8 x.er && sibsV p x.er))) := by
  obtain ⟨n, m, sA, sc, ss, cA, cc, cs, vA, vc, vs⟩ := x
  have HS := Lib.hid hs
  have HX0 := Lib.hid hx
  clear hs
  have HB0 : Hid (Below w.heap.size w ((w.alloc (.cells #[.int .i64 8, .slice A 1 c] 24)).alloc (.cells #[.int .u64 n, .int .u64 m, .slice sA ss.length sc, .slice cA cs.length cc, .slice vA vs.length vc] 30))) := belAl (allocB _ _)
  have HX := Lib.hid (hx.later HB0.out)
  have P := hx.out
  have HP := Lib.hid P
  have HSB : Hid (ss.length ≤ maxLen) := Nat.le_trans P.sb.1 P.sb.2.1
  have hsm : ss.length ≤ 9223372036854775807 := by have := P.sb; unfold maxLen at this; omega
  have hcm : cs.length ≤ 9223372036854775807 := by have := P.cb; unfold maxLen at this; omega
  have hvm : vs.length ≤ 9223372036854775807 := by have := P.vb; unfold maxLen at this; omega
  obtain ⟨t, ht⟩ : ∃ z, fitsV 8 (Vl.mk n m sA sc ss cA cc cs vA vc vs).er = z := ⟨_, rfl⟩
  obtain ⟨u, hu⟩ : ∃ z, decide (R1.Srt ss) = z := ⟨_, rfl⟩
  obtain ⟨q, hq⟩ : ∃ z, decide (ss.length ≤ 40) = z := ⟨_, rfl⟩
  have HF : Hid (baseV 8 (Vl.mk n m sA sc ss cA cc cs vA vc vs).er = (t && (u && q))) := by
    show baseV _ _ = _
    unfold baseV
    rw [ht, er_mk, show (Va.mk n m ss (cs.map Ck.l) (vs.map Vl.er)).s = ss from rfl, hu, hq]
  have HT := Lib.hid ht
  have HU := Lib.hid hu
  have HQ := Lib.hid hq
  rw [HF.out]
  clear hx P ht hu hq HF
  simp only [S2.val_mk, val_mk, List.length_nil, List.length_cons, Nat.zero_add]
  go_enter Try.func26, Try.ntmps26
  go_wp2_with fail
  refine (refFits_at 8 A c 1 n m sA sc ss cA cc cs vA vc vs t _ HX.out HT.out).mono ?_
  rintro e w1 ⟨rfl, hb1⟩
  have HBX : Hid (Boxes w 8 A 1 c n m sA ss.length sc cA cs.length cc vA vs.length vc w1) := Boxes.later ⟨by go_simp, by go_simp, by go_simp, by go_simp, by go_simp, by go_simp, by go_simp, by simp, HB0.out⟩ hb1
  clear hb1 HB0 HX
  cases t with
  | false =>
    go_wp2_with fail
    go_ret
    exact ⟨rfl, HBX.out.bel⟩
  | true =>
    have c2 := HBX.out.c2
    go_wp2_with fail
    refine (refRises_at sA sc ss u _ (HP.out.sl.below HBX.out.bel) HSB.out HU.out).mono ?_
    rintro e w2 ⟨rfl, hb2⟩
    replace HBX := Lib.hid (HBX.out.later hb2)
    clear hb2 c2
    cases u with
    | false =>
      go_wp2_with fail
      go_ret
      exact ⟨rfl, HBX.out.bel⟩
    | true =>
      have c2 := HBX.out.c2
      have i0 := HBX.out.i0
      cases q with
      | false =>
        have dq : 40 < ss.length := by have := of_decide_eq_false HQ.out; omega
        go_wp2_with fail
        go_ret
        exact ⟨rfl, HBX.out.bel⟩
      | true =>
        have dq : decide (40 < (ss.length : Int)) = false := decide_eq_false (by have := of_decide_eq_true HQ.out; omega)
        have hlen : (Vl.mk n m sA sc ss cA cc cs vA vc vs).er.c.length = (Vl.mk n m sA sc ss cA cc cs vA vc vs).er.v.length := by
          have h := HT.out
          rw [er_mk, fits_ne 8 (by decide) (by decide) (by decide) (by decide) (by decide) (by decide) (by decide), Bool.and_eq_true] at h
          rw [er_mk]
          exact of_decide_eq_true h.2
        have HSI := Lib.hid ((HS.out.keep HBX.out.bel).up HBX.out.bel.size)
        have HXI := Lib.hid (HX0.out.later HBX.out.bel)
        have HSB8 := Lib.hid (refSib_any 8 A c a (.mk n m sA sc ss cA cc cs vA vc vs) w2 HSI.out HXI.out hlen p ih)
        clear hlen ih
        obtain ⟨ak, aA, ac, al⟩ := a
        simp only [S2.val_mk, val_mk, List.length_nil, List.length_cons, Nat.zero_add] at HSB8
        have i1 := HBX.out.i1
        have c0 := HBX.out.c0
        have c1 := HBX.out.c1
        have c3 := HBX.out.c3
        have c4 := HBX.out.c4
        go_wp2_with fail
        refine HSB8.out.mono ?_
        rintro e w3 ⟨rfl, hb3⟩
        have hbw3 := (HBX.out.later hb3).bel
        clear hb3
        generalize sibsV p (Vl.mk n m sA sc ss cA cc cs vA vc vs).er = z at *
        go_wp2_with fail
        go_ret
        exact ⟨rfl, hbw3⟩

end Go.Proofs.Ytcpfjjimbnmaoaa.V4
