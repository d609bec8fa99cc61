/- What Rises does, of the reference, and rises, of the program. No condition but that the slices read as strings. What the reference's is and Is do. No condition but that what they take lies in memory. Rows of strings that a call owns, and append onto them. No condition. What Put of the reference does. No condition but that the slice reads as strings, at most 900000. What Sort and Both of the reference do. No condition but that the slices read as strings, at most 400000. What Both and Without of the reference do. No condition but that the slices read us strings, at most 400000. Rows that rise are known by what is in them: plain mathematics. No condition. -/
import Derived.Test.YtleejffjnknohaaGreatRows
import Derived.Test.YtleejffjnknohaaGreatMq02
import Derived.Test.YtleejffjnknohaaGreatMq05
import Derived.Test.YtleejffjnknohaaGreatMq01
import Derived.Deep.RegionLaw
import Derived.Lib.SlicesCompact
namespace Go.Proofs.YtleejffjnknohaaGreat.R1
open Go.RowKit

set_option maxHeartbeats 400000 in
theorem refRises_any (A : Option Addr) (c : Nat) (xs : List Str) (w : World) (hl : Lies w A xs) (hn : xs.length ≤ maxLen) :
    Calls Tryz.prog 51 #[.slice A xs.length c] w fun e w' => e = .returned (.bool (decide (Srt xs))) ∧ ∃ n, w' = w.drewN n := by
  unfold maxLen at hn
  go_enter Tryz.func51, Tryz.ntmps51
  go_wp2
  go_loopw [3] (fun i wr => ∃ k n : Nat, (k + 1 ≤ xs.length ∨ k = 0) ∧ i = .int .i64 (k + 1 : Nat) ∧ wr = w.drewN n ∧ Hid (Srt (xs.take (k + 1)))) (fun i _ => xs.length - (intOf i).toNat)
  case atStart => exact ⟨0, 0, .inr rfl, rfl, rfl, srt_take_one xs⟩
  case round =>
    obtain ⟨k, n, hk, rfl, rfl, h0⟩ := hrel
    by_cases hlt : k + 1 < xs.length
    · obtain ⟨b, off, rfl, hb, hc⟩ := hl.get hlt
      obtain ⟨x, hx⟩ : ∃ x, xs[k]? = some x := ⟨_, List.getElem?_eq_getElem (by omega)⟩
      obtain ⟨y, hy⟩ : ∃ x, xs[k + 1]? = some x := ⟨_, List.getElem?_eq_getElem hlt⟩
      have hcx := hc k x hx
      have hcy := hc (k + 1) y hy
      have HX := Lib.hid hx
      have HY := Lib.hid hy
      clear hx hy hc hl
      by_cases hxy : x < y
      · have hb2 := bl_true hxy
        have HN := Lib.hid hxy
        clear hxy
        go_wp2
        go_quiet (fail)
        go_wp2
        go_roundw
        case rel => exact ⟨k + 1, _, by omega, by go_num, rfl, srt_snoc h0.out HX.out HY.out HN.out⟩
        case measure => simp [intOf]; omega
      · have hb2 := bl_false hxy
        have HN := Lib.hid hxy
        clear hxy
        go_wp2
        go_quiet (fail)
        go_wp2
        go_ret
        exact ⟨ret_bool (decide_eq_false (srt_no HX.out HY.out HN.out)).symm, drew2 _ _ _⟩
    · go_wp2
      go_ret
      exact ⟨ret_bool (decide_eq_true (srt_all h0.out (by omega))).symm, _, rfl⟩

set_option maxHeartbeats 400000 in
theorem rises_any (A : Option Addr) (c : Nat) (xs : List Str) (w : World) (hl : Lies w A xs) (hn : xs.length ≤ maxLen) :
    Calls Tryz.prog 129 #[.slice A xs.length c] w fun e w' => e = .returned (.bool (decide (Srt xs))) ∧ ∃ n, w' = w.drewN n := by
  unfold maxLen at hn
  go_enter Tryz.func129, Tryz.ntmps129
  go_wp2
  go_loopw [3] (fun i wr => ∃ k n : Nat, (k + 1 ≤ xs.length ∨ k = 0) ∧ i = .int .i64 (k + 1 : Nat) ∧ wr = w.drewN n ∧ Hid (Srt (xs.take (k + 1)))) (fun i _ => xs.length - (intOf i).toNat)
  case atStart => exact ⟨0, 0, .inr rfl, rfl, rfl, srt_take_one xs⟩
  case round =>
    obtain ⟨k, n, hk, rfl, rfl, h0⟩ := hrel
    by_cases hlt : k + 1 < xs.length
    · obtain ⟨b, off, rfl, hb, hc⟩ := hl.get hlt
      obtain ⟨x, hx⟩ : ∃ x, xs[k]? = some x := ⟨_, List.getElem?_eq_getElem (by omega)⟩
      obtain ⟨y, hy⟩ : ∃ x, xs[k + 1]? = some x := ⟨_, List.getElem?_eq_getElem hlt⟩
      have hcx := hc k x hx
      have hcy := hc (k + 1) y hy
      have HX := Lib.hid hx
      have HY := Lib.hid hy
      clear hx hy hc hl
      by_cases hxy : x < y
      · have hb2 := bl_false (str_asymm hxy)
        have hb3 := beq_str (fun e : y = x => str_irrefl x (e ▸ hxy))
        have HN := Lib.hid hxy
        clear hxy
        go_wp2
        go_quiet (fail)
        go_wp2
        go_roundw
        case rel => exact ⟨k + 1, _, by omega, by go_num, rfl, srt_snoc h0.out HX.out HY.out HN.out⟩
        case measure => simp [intOf]; omega
      · have hb2 : (Op.bytesLess y x || y == x) = true := by
          rcases str_tri x y with h | h | h
          · exact absurd h hxy
          · subst h; simp
          · rw [bl_true h]; rfl
        have HN := Lib.hid hxy
        clear hxy
        go_wp2
        go_quiet (fail)
        go_wp2
        go_ret
        exact ⟨ret_bool (decide_eq_false (srt_no HX.out HY.out HN.out)).symm, drew2 _ _ _⟩
    · go_wp2
      go_ret
      exact ⟨ret_bool (decide_eq_true (srt_all h0.out (by omega))).symm, _, rfl⟩

set_option maxHeartbeats 400000 in
theorem is_any (A : Option Addr) (c : Nat) (xs : List Str) (w : World) (hl : Lies w A xs) (hn : xs.length ≤ maxLen) :
    Calls Tryz.prog 111 #[.slice A xs.length c] w fun e w' => e = .returned (.bool (decide (Srt xs))) ∧ ∃ n, w' = w.drewN n := by
  go_enter Tryz.func111, Tryz.ntmps111
  go_wp2_with fail
  refine (rises_any A c xs w hl hn).mono ?_
  rintro e w' ⟨rfl, n, rfl⟩
  go_wp2
  go_ret
  exact ⟨rfl, n, rfl⟩
end Go.Proofs.YtleejffjnknohaaGreat.R1

namespace Go.Proofs.YtleejffjnknohaaGreat.V4
open Go.RowKit
open C3 (Tk Asc isC ofC cmpC Nok In belAl allocB drewB RetT)
open S2 (Tr Sc isT)

def baseV (k : Int) (x : Va) : Bool := fitsV k x && (decide (R1.Srt x.s) && decide (x.s.length ≤ 40))
def mapV (p : Va → Bool) (bot : Va) (vs : List Va) : Bool := vs.all fun y => p y && !decide (y = bot)
def clockV (cs : List (List Tk)) : Bool := match cs with
  | [] => true
  | c :: _ => isC c && decide (0 < c.length)
def pairV (p q : Va → Bool) (vs : List Va) : Bool := match vs with
  | y :: z :: _ => p y && q z
  | _ => false

/-- A value by a schema. -/
def isV : Tr → Va → Bool
  | .mk k [], x => baseV k x && (if k = 7 then clockV x.c else true)
  | .mk k [a], x => baseV k x && (if k = 4 then mapV (isV a) (botT a) x.v else sibsV (isV a) x)
  | .mk k [a, b], x => baseV k x && pairV (isV a) (isV b) x.v
  | .mk _ (_ :: _ :: _ :: _), _ => false

/-- The cells of the two boxes. -/
structure Boxes (w : World) (k : Int) (A : Option Addr) (ln c : Nat) (n m : Int) (sA : Option Addr) (sn sc : Nat) (cA : Option Addr) (cn cc : Nat) (vA : Option Addr) (vn vc : Nat) (W : World) : Prop where
  i0 : W.cell? ⟨w.heap.size, 0, none⟩ = some (.int .i64 k)
  i1 : W.cell? ⟨w.heap.size, 1, none⟩ = some (.slice A ln c)
  c0 : W.cell? ⟨w.heap.size + 1, 0, none⟩ = some (.int .u64 n)
  c1 : W.cell? ⟨w.heap.size + 1, 1, none⟩ = some (.int .u64 m)
  c2 : W.cell? ⟨w.heap.size + 1, 2, none⟩ = some (.slice sA sn sc)
  c3 : W.cell? ⟨w.heap.size + 1, 3, none⟩ = some (.slice cA cn cc)
  c4 : W.cell? ⟨w.heap.size + 1, 4, none⟩ = some (.slice vA vn vc)
  sz : w.heap.size + 1 < W.heap.size
  bel : Below w.heap.size w W

theorem Boxes.later {w : World} {k : Int} {A : Option Addr} {ln c : Nat} {n m : Int} {sA : Option Addr} {sn sc : Nat} {cA : Option Addr} {cn cc : Nat} {vA : Option Addr} {vn vc : Nat} {W W' : World} (h : Boxes w k A ln c n m sA sn sc cA cn cc vA vn vc W) (hb : Below W.heap.size W W') :
    Boxes w k A ln c n m sA sn sc cA cn cc vA vn vc W' := by
  have h0 : w.heap.size < W.heap.size := by have := h.sz; omega
  exact ⟨(hb.cell (p := ⟨w.heap.size, 0, none⟩) h0).trans h.i0, (hb.cell (p := ⟨w.heap.size, 1, none⟩) h0).trans h.i1, (hb.cell (p := ⟨w.heap.size + 1, 0, none⟩) h.sz).trans h.c0, (hb.cell (p := ⟨w.heap.size + 1, 1, none⟩) h.sz).trans h.c1, (hb.cell (p := ⟨w.heap.size + 1, 2, none⟩) h.sz).trans h.c2,
    (hb.cell (p := ⟨w.heap.size + 1, 3, none⟩) h.sz).trans h.c3, (hb.cell (p := ⟨w.heap.size + 1, 4, none⟩) h.sz).trans h.c4, Nat.lt_of_lt_of_le h.sz hb.size, h.bel.trans (hb.mono h.bel.size)⟩

/-- A schema and a value in their rows. -/
structure Row2 (b off : Nat) (a : Sc) (b2 o2 : Nat) (y : Vl) (W : World) : Prop where
  s0 : W.cell? ⟨b, off, none⟩ = some (.int .i64 a.k)
  s1 : W.cell? ⟨b, off + 1, none⟩ = some a.v1
  y0 : W.cell? ⟨b2, o2, none⟩ = some (.int .u64 y.n)
  y1 : W.cell? ⟨b2, o2 + 1, none⟩ = some (.int .u64 y.m)
  y2 : W.cell? ⟨b2, o2 + 2, none⟩ = some y.s1
  y3 : W.cell? ⟨b2, o2 + 3, none⟩ = some y.c1
  y4 : W.cell? ⟨b2, o2 + 4, none⟩ = some y.v1
  l1 : b < W.heap.size
  l2 : b2 < W.heap.size
  ia : a.In W.heap.size W
  iy : y.In W
theorem Row2.later {b off : Nat} {a : Sc} {b2 o2 : Nat} {y : Vl} {W W' : World} (h : Row2 b off a b2 o2 y W) (hb : Below W.heap.size W W') : Row2 b off a b2 o2 y W' :=
  ⟨(hb.cell (p := ⟨b, off, none⟩) h.l1).trans h.s0, (hb.cell (p := ⟨b, off + 1, none⟩) h.l1).trans h.s1, (hb.cell (p := ⟨b2, o2, none⟩) h.l2).trans h.y0, (hb.cell (p := ⟨b2, o2 + 1, none⟩) h.l2).trans h.y1, (hb.cell (p := ⟨b2, o2 + 2, none⟩) h.l2).trans h.y2, (hb.cell (p := ⟨b2, o2 + 3, none⟩) h.l2).trans h.y3, (hb.cell (p := ⟨b2, o2 + 4, none⟩) h.l2).trans h.y4,
    Nat.lt_of_lt_of_le h.l1 hb.size, Nat.lt_of_lt_of_le h.l2 hb.size, h.ia.later hb, h.iy.later hb⟩

theorem refFits_at (k : Int) (A : Option Addr) (c ln : Nat) (n m : Int) (sA : Option Addr) (sc : Nat) (ss : List Str) (cA : Option Addr) (cc : Nat) (cs : List Ck) (vA : Option Addr) (vc : Nat) (vs : List Vl) (v : Bool) (w : World) (h : (Vl.mk n m sA sc ss cA cc cs vA vc vs).In w) (hv : fitsV k (Vl.mk n m sA sc ss cA cc cs vA vc vs).er = v) :
    Calls Tryz.prog 50 #[.agg #[.int .i64 k, .slice A ln c], .agg #[.int .u64 n, .int .u64 m, .slice sA ss.length sc, .slice cA cs.length cc, .slice vA vs.length vc]] w (RetV w (.bool v)) := hv ▸ refFits_any k A c ln _ w h
theorem refRises_at (A : Option Addr) (c : Nat) (xs : List Str) (v : Bool) (w : World) (hl : Lies w A xs) (hn : xs.length ≤ maxLen) (hv : decide (R1.Srt xs) = v) :
    Calls Tryz.prog 51 #[.slice A xs.length c] w (RetV w (.bool v)) := hv ▸ (R1.refRises_any A c xs w hl hn).mono fun _ _ ⟨h1, n, h2⟩ => ⟨h1, h2 ▸ below_drewN (Below.refl _ _) n⟩

set_option maxRecDepth 100000 in
set_option maxHeartbeats 4000000 in
theorem refIsV_1 (A : Option Addr) (c : Nat) (x : Vl) (w : World) (hx : x.In w) : Calls Tryz.prog 32 #[(Sc.mk 1 A c []).val, x.val] w (RetV w (.bool (baseV 1 x.er && true))) := by
  obtain ⟨n, m, sA, sc, ss, cA, cc, cs, vA, vc, vs⟩ := x
  have HB0 : Hid (Below w.heap.size w ((w.alloc (.cells #[.int .i64 1, .slice A 0 c] 24)).alloc (.cells #[.int .u64 n, .int .u64 m, .slice sA ss.length sc, .slice cA cs.length cc, .slice vA vs.length vc] 32))) := belAl (allocB _ _)
  have HX := Lib.hid (hx.later HB0.out)
  have P := hx.out
  have HP := Lib.hid P
  have HSB : Hid (ss.length ≤ maxLen) := Nat.le_trans P.sb.1 P.sb.2.1
  have hsm : ss.length ≤ 9223372036854775807 := by have := P.sb; unfold maxLen at this; omega
  have hcm : cs.length ≤ 9223372036854775807 := by have := P.cb; unfold maxLen at this; omega
  have hvm : vs.length ≤ 9223372036854775807 := by have := P.vb; unfold maxLen at this; omega
  obtain ⟨t, ht⟩ : ∃ z, fitsV 1 (Vl.mk n m sA sc ss cA cc cs vA vc vs).er = z := ⟨_, rfl⟩
  obtain ⟨u, hu⟩ : ∃ z, decide (R1.Srt ss) = z := ⟨_, rfl⟩
  obtain ⟨q, hq⟩ : ∃ z, decide (ss.length ≤ 40) = z := ⟨_, rfl⟩
  have HF : Hid (baseV 1 (Vl.mk n m sA sc ss cA cc cs vA vc vs).er = (t && (u && q))) := by
    show baseV _ _ = _
    unfold baseV
    rw [ht, er_mk, show (Va.mk n m ss (cs.map Ck.l) (vs.map Vl.er)).s = ss from rfl, hu, hq]
  have HT := Lib.hid ht
  have HU := Lib.hid hu
  have HQ := Lib.hid hq
  rw [HF.out]
  clear hx P ht hu hq HF
  simp only [S2.val_mk, val_mk, List.length_nil]
  go_enter Tryz.func32, Tryz.ntmps32
  go_wp2_with fail
  refine (refFits_at 1 A c 0 n m sA sc ss cA cc cs vA vc vs t _ HX.out HT.out).mono ?_
  rintro e w1 ⟨rfl, hb1⟩
  have HBX : Hid (Boxes w 1 A 0 c n m sA ss.length sc cA cs.length cc vA vs.length vc w1) := Boxes.later ⟨by go_simp, by go_simp, by go_simp, by go_simp, by go_simp, by go_simp, by go_simp, by simp, HB0.out⟩ hb1
  clear hb1 HB0 HX
  cases t with
  | false =>
    go_wp2_with fail
    go_ret
    exact ⟨rfl, HBX.out.bel⟩
  | true =>
    have c2 := HBX.out.c2
    go_wp2_with fail
    refine (refRises_at sA sc ss u _ (HP.out.sl.below HBX.out.bel) HSB.out HU.out).mono ?_
    rintro e w2 ⟨rfl, hb2⟩
    replace HBX := Lib.hid (HBX.out.later hb2)
    clear hb2 c2
    cases u with
    | false =>
      go_wp2_with fail
      go_ret
      exact ⟨rfl, HBX.out.bel⟩
    | true =>
      have c2 := HBX.out.c2
      have i0 := HBX.out.i0
      cases q with
      | false =>
        have dq : 40 < ss.length := by have := of_decide_eq_false HQ.out; omega
        go_wp2_with fail
        go_ret
        exact ⟨rfl, HBX.out.bel⟩
      | true =>
        have dq : decide (40 < (ss.length : Int)) = false := decide_eq_false (by have := of_decide_eq_true HQ.out; omega)
        go_wp2_with fail
        go_ret
        exact ⟨rfl, HBX.out.bel⟩

set_option maxRecDepth 100000 in
set_option maxHeartbeats 4000000 in
theorem refIsV_2 (A : Option Addr) (c : Nat) (x : Vl) (w : World) (hx : x.In w) : Calls Tryz.prog 32 #[(Sc.mk 2 A c []).val, x.val] w (RetV w (.bool (baseV 2 x.er && true))) := by
  obtain ⟨n, m, sA, sc, ss, cA, cc, cs, vA, vc, vs⟩ := x
  have HB0 : Hid (Below w.heap.size w ((w.alloc (.cells #[.int .i64 2, .slice A 0 c] 24)).alloc (.cells #[.int .u64 n, .int .u64 m, .slice sA ss.length sc, .slice cA cs.length cc, .slice vA vs.length vc] 32))) := belAl (allocB _ _)
  have HX := Lib.hid (hx.later HB0.out)
  have P := hx.out
  have HP := Lib.hid P
  have HSB : Hid (ss.length ≤ maxLen) := Nat.le_trans P.sb.1 P.sb.2.1
  have hsm : ss.length ≤ 9223372036854775807 := by have := P.sb; unfold maxLen at this; omega
  have hcm : cs.length ≤ 9223372036854775807 := by have := P.cb; unfold maxLen at this; omega
  have hvm : vs.length ≤ 9223372036854775807 := by have := P.vb; unfold maxLen at this; omega
  obtain ⟨t, ht⟩ : ∃ z, fitsV 2 (Vl.mk n m sA sc ss cA cc cs vA vc vs).er = z := ⟨_, rfl⟩
  obtain ⟨u, hu⟩ : ∃ z, decide (R1.Srt ss) = z := ⟨_, rfl⟩
  obtain ⟨q, hq⟩ : ∃ z, decide (ss.length ≤ 40) = z := ⟨_, rfl⟩
  have HF : Hid (baseV 2 (Vl.mk n m sA sc ss cA cc cs vA vc vs).er = (t && (u && q))) := by
    show baseV _ _ = _
    unfold baseV
    rw [ht, er_mk, show (Va.mk n m ss (cs.map Ck.l) (vs.map Vl.er)).s = ss from rfl, hu, hq]
  have HT := Lib.hid ht
  have HU := Lib.hid hu
  have HQ := Lib.hid hq
  rw [HF.out]
  clear hx P ht hu hq HF
  simp only [S2.val_mk, val_mk, List.length_nil]
  go_enter Tryz.func32, Tryz.ntmps32
  go_wp2_with fail
  refine (refFits_at 2 A c 0 n m sA sc ss cA cc cs vA vc vs t _ HX.out HT.out).mono ?_
  rintro e w1 ⟨rfl, hb1⟩
  have HBX : Hid (Boxes w 2 A 0 c n m sA ss.length sc cA cs.length cc vA vs.length vc w1) := Boxes.later ⟨by go_simp, by go_simp, by go_simp, by go_simp, by go_simp, by go_simp, by go_simp, by simp, HB0.out⟩ hb1
  clear hb1 HB0 HX
  cases t with
  | false =>
    go_wp2_with fail
    go_ret
    exact ⟨rfl, HBX.out.bel⟩
  | true =>
    have c2 := HBX.out.c2
    go_wp2_with fail
    refine (refRises_at sA sc ss u _ (HP.out.sl.below HBX.out.bel) HSB.out HU.out).mono ?_
    rintro e w2 ⟨rfl, hb2⟩
    replace HBX := Lib.hid (HBX.out.later hb2)
    clear hb2 c2
    cases u with
    | false =>
      go_wp2_with fail
      go_ret
      exact ⟨rfl, HBX.out.bel⟩
    | true =>
      have c2 := HBX.out.c2
      have i0 := HBX.out.i0
      cases q with
      | false =>
        have dq : 40 < ss.length := by have := of_decide_eq_false HQ.out; omega
        go_wp2_with fail
        go_ret
        exact ⟨rfl, HBX.out.bel⟩
      | true =>
        have dq : decide (40 < (ss.length : Int)) = false := decide_eq_false (by have := of_decide_eq_true HQ.out; omega)
        go_wp2_with fail
        go_ret
        exact ⟨rfl, HBX.out.bel⟩

set_option maxRecDepth 100000 in
set_option maxHeartbeats 4000000 in
theorem refIsV_3 (A : Option Addr) (c : Nat) (x : Vl) (w : World) (hx : x.In w) : Calls Tryz.prog 32 #[(Sc.mk 3 A c []).val, x.val] w (RetV w (.bool (baseV 3 x.er && true))) := by
  obtain ⟨n, m, sA, sc, ss, cA, cc, cs, vA, vc, vs⟩ := x
  have HB0 : Hid (Below w.heap.size w ((w.alloc (.cells #[.int .i64 3, .slice A 0 c] 24)).alloc (.cells #[.int .u64 n, .int .u64 m, .slice sA ss.length sc, .slice cA cs.length cc, .slice vA vs.length vc] 32))) := belAl (allocB _ _)
  have HX := Lib.hid (hx.later HB0.out)
  have P := hx.out
  have HP := Lib.hid P
  have HSB : Hid (ss.length ≤ maxLen) := Nat.le_trans P.sb.1 P.sb.2.1
  have hsm : ss.length ≤ 9223372036854775807 := by have := P.sb; unfold maxLen at this; omega
  have hcm : cs.length ≤ 9223372036854775807 := by have := P.cb; unfold maxLen at this; omega
  have hvm : vs.length ≤ 9223372036854775807 := by have := P.vb; unfold maxLen at this; omega
  obtain ⟨t, ht⟩ : ∃ z, fitsV 3 (Vl.mk n m sA sc ss cA cc cs vA vc vs).er = z := ⟨_, rfl⟩
  obtain ⟨u, hu⟩ : ∃ z, decide (R1.Srt ss) = z := ⟨_, rfl⟩
  obtain ⟨q, hq⟩ : ∃ z, decide (ss.length ≤ 40) = z := ⟨_, rfl⟩
  have HF : Hid (baseV 3 (Vl.mk n m sA sc ss cA cc cs vA vc vs).er = (t && (u && q))) := by
    show baseV _ _ = _
    unfold baseV
    rw [ht, er_mk, show (Va.mk n m ss (cs.map Ck.l) (vs.map Vl.er)).s = ss from rfl, hu, hq]
  have HT := Lib.hid ht
  have HU := Lib.hid hu
  have HQ := Lib.hid hq
  rw [HF.out]
  clear hx P ht hu hq HF
  simp only [S2.val_mk, val_mk, List.length_nil]
  go_enter Tryz.func32, Tryz.ntmps32
  go_wp2_with fail
  refine (refFits_at 3 A c 0 n m sA sc ss cA cc cs vA vc vs t _ HX.out HT.out).mono ?_
  rintro e w1 ⟨rfl, hb1⟩
  have HBX : Hid (Boxes w 3 A 0 c n m sA ss.length sc cA cs.length cc vA vs.length vc w1) := Boxes.later ⟨by go_simp, by go_simp, by go_simp, by go_simp, by go_simp, by go_simp, by go_simp, by simp, HB0.out⟩ hb1
  clear hb1 HB0 HX
  cases t with
  | false =>
    go_wp2_with fail
    go_ret
    exact ⟨rfl, HBX.out.bel⟩
  | true =>
    have c2 := HBX.out.c2
    go_wp2_with fail
    refine (refRises_at sA sc ss u _ (HP.out.sl.below HBX.out.bel) HSB.out HU.out).mono ?_
    rintro e w2 ⟨rfl, hb2⟩
    replace HBX := Lib.hid (HBX.out.later hb2)
    clear hb2 c2
    cases u with
    | false =>
      go_wp2_with fail
      go_ret
      exact ⟨rfl, HBX.out.bel⟩
    | true =>
      have c2 := HBX.out.c2
      have i0 := HBX.out.i0
      cases q with
      | false =>
        have dq : 40 < ss.length := by have := of_decide_eq_false HQ.out; omega
        go_wp2_with fail
        go_ret
        exact ⟨rfl, HBX.out.bel⟩
      | true =>
        have dq : decide (40 < (ss.length : Int)) = false := decide_eq_false (by have := of_decide_eq_true HQ.out; omega)
        go_wp2_with fail
        go_ret
        exact ⟨rfl, HBX.out.bel⟩

set_option maxRecDepth 100000 in
set_option maxHeartbeats 4000000 in
theorem refIsV_6 (A : Option Addr) (c : Nat) (x : Vl) (w : World) (hx : x.In w) : Calls Tryz.prog 32 #[(Sc.mk 6 A c []).val, x.val] w (RetV w (.bool (baseV 6 x.er && true))) := by
  obtain ⟨n, m, sA, sc, ss, cA, cc, cs, vA, vc, vs⟩ := x
  have HB0 : Hid (Below w.heap.size w ((w.alloc (.cells #[.int .i64 6, .slice A 0 c] 24)).alloc (.cells #[.int .u64 n, .int .u64 m, .slice sA ss.length sc, .slice cA cs.length cc, .slice vA vs.length vc] 32))) := belAl (allocB _ _)
  have HX := Lib.hid (hx.later HB0.out)
  have P := hx.out
  have HP := Lib.hid P
  have HSB : Hid (ss.length ≤ maxLen) := Nat.le_trans P.sb.1 P.sb.2.1
  have hsm : ss.length ≤ 9223372036854775807 := by have := P.sb; unfold maxLen at this; omega
  have hcm : cs.length ≤ 9223372036854775807 := by have := P.cb; unfold maxLen at this; omega
  have hvm : vs.length ≤ 9223372036854775807 := by have := P.vb; unfold maxLen at this; omega
  obtain ⟨t, ht⟩ : ∃ z, fitsV 6 (Vl.mk n m sA sc ss cA cc cs vA vc vs).er = z := ⟨_, rfl⟩
  obtain ⟨u, hu⟩ : ∃ z, decide (R1.Srt ss) = z := ⟨_, rfl⟩
  obtain ⟨q, hq⟩ : ∃ z, decide (ss.length ≤ 40) = z := ⟨_, rfl⟩
  have HF : Hid (baseV 6 (Vl.mk n m sA sc ss cA cc cs vA vc vs).er = (t && (u && q))) := by
    show baseV _ _ = _
    unfold baseV
    rw [ht, er_mk, show (Va.mk n m ss (cs.map Ck.l) (vs.map Vl.er)).s = ss from rfl, hu, hq]
  have HT := Lib.hid ht
  have HU := Lib.hid hu
  have HQ := Lib.hid hq
  rw [HF.out]
  clear hx P ht hu hq HF
  simp only [S2.val_mk, val_mk, List.length_nil]
  go_enter Tryz.func32, Tryz.ntmps32
  go_wp2_with fail
  refine (refFits_at 6 A c 0 n m sA sc ss cA cc cs vA vc vs t _ HX.out HT.out).mono ?_
  rintro e w1 ⟨rfl, hb1⟩
  have HBX : Hid (Boxes w 6 A 0 c n m sA ss.length sc cA cs.length cc vA vs.length vc w1) := Boxes.later ⟨by go_simp, by go_simp, by go_simp, by go_simp, by go_simp, by go_simp, by go_simp, by simp, HB0.out⟩ hb1
  clear hb1 HB0 HX
  cases t with
  | false =>
    go_wp2_with fail
    go_ret
    exact ⟨rfl, HBX.out.bel⟩
  | true =>
    have c2 := HBX.out.c2
    go_wp2_with fail
    refine (refRises_at sA sc ss u _ (HP.out.sl.below HBX.out.bel) HSB.out HU.out).mono ?_
    rintro e w2 ⟨rfl, hb2⟩
    replace HBX := Lib.hid (HBX.out.later hb2)
    clear hb2 c2
    cases u with
    | false =>
      go_wp2_with fail
      go_ret
      exact ⟨rfl, HBX.out.bel⟩
    | true =>
      have c2 := HBX.out.c2
      have i0 := HBX.out.i0
      cases q with
      | false =>
        have dq : 40 < ss.length := by have := of_decide_eq_false HQ.out; omega
        go_wp2_with fail
        go_ret
        exact ⟨rfl, HBX.out.bel⟩
      | true =>
        have dq : decide (40 < (ss.length : Int)) = false := decide_eq_false (by have := of_decide_eq_true HQ.out; omega)
        go_wp2_with fail
        go_ret
        exact ⟨rfl, HBX.out.bel⟩

set_option maxRecDepth 100000 in
set_option maxHeartbeats 4000000 in
theorem refIsV_7 (A : Option Addr) (c : Nat) (x : Vl) (w : World) (hx : x.In w) : Calls Tryz.prog 32 #[(Sc.mk 7 A c []).val, x.val] w (RetV w (.bool (baseV 7 x.er && clockV x.er.c))) := by
  obtain ⟨n, m, sA, sc, ss, cA, cc, cs, vA, vc, vs⟩ := x
  have HB0 : Hid (Below w.heap.size w ((w.alloc (.cells #[.int .i64 7, .slice A 0 c] 24)).alloc (.cells #[.int .u64 n, .int .u64 m, .slice sA ss.length sc, .slice cA cs.length cc, .slice vA vs.length vc] 32))) := belAl (allocB _ _)
  have HX := Lib.hid (hx.later HB0.out)
  have P := hx.out
  have HP := Lib.hid P
  have HSB : Hid (ss.length ≤ maxLen) := Nat.le_trans P.sb.1 P.sb.2.1
  have hsm : ss.length ≤ 9223372036854775807 := by have := P.sb; unfold maxLen at this; omega
  have hcm : cs.length ≤ 9223372036854775807 := by have := P.cb; unfold maxLen at this; omega
  have hvm : vs.length ≤ 9223372036854775807 := by have := P.vb; unfold maxLen at this; omega
  obtain ⟨t, ht⟩ : ∃ z, fitsV 7 (Vl.mk n m sA sc ss cA cc cs vA vc vs).er = z := ⟨_, rfl⟩
  obtain ⟨u, hu⟩ : ∃ z, decide (R1.Srt ss) = z := ⟨_, rfl⟩
  obtain ⟨q, hq⟩ : ∃ z, decide (ss.length ≤ 40) = z := ⟨_, rfl⟩
  have HF : Hid (baseV 7 (Vl.mk n m sA sc ss cA cc cs vA vc vs).er = (t && (u && q))) := by
    show baseV _ _ = _
    unfold baseV
    rw [ht, er_mk, show (Va.mk n m ss (cs.map Ck.l) (vs.map Vl.er)).s = ss from rfl, hu, hq]
  have HT := Lib.hid ht
  have HU := Lib.hid hu
  have HQ := Lib.hid hq
  rw [HF.out]
  clear hx P ht hu hq HF
  simp only [S2.val_mk, val_mk, List.length_nil]
  go_enter Tryz.func32, Tryz.ntmps32
  go_wp2_with fail
  refine (refFits_at 7 A c 0 n m sA sc ss cA cc cs vA vc vs t _ HX.out HT.out).mono ?_
  rintro e w1 ⟨rfl, hb1⟩
  have HBX : Hid (Boxes w 7 A 0 c n m sA ss.length sc cA cs.length cc vA vs.length vc w1) := Boxes.later ⟨by go_simp, by go_simp, by go_simp, by go_simp, by go_simp, by go_simp, by go_simp, by simp, HB0.out⟩ hb1
  clear hb1 HB0 HX
  cases t with
  | false =>
    go_wp2_with fail
    go_ret
    exact ⟨rfl, HBX.out.bel⟩
  | true =>
    have c2 := HBX.out.c2
    go_wp2_with fail
    refine (refRises_at sA sc ss u _ (HP.out.sl.below HBX.out.bel) HSB.out HU.out).mono ?_
    rintro e w2 ⟨rfl, hb2⟩
    replace HBX := Lib.hid (HBX.out.later hb2)
    clear hb2 c2
    cases u with
    | false =>
      go_wp2_with fail
      go_ret
      exact ⟨rfl, HBX.out.bel⟩
    | true =>
      have c2 := HBX.out.c2
      have i0 := HBX.out.i0
      cases q with
      | false =>
        have dq : 40 < ss.length := by have := of_decide_eq_false HQ.out; omega
        go_wp2_with fail
        go_ret
        exact ⟨rfl, HBX.out.bel⟩
      | true =>
        have dq : decide (40 < (ss.length : Int)) = false := decide_eq_false (by have := of_decide_eq_true HQ.out; omega)
        have c3 := HBX.out.c3
        cases cs with
        | nil =>
          simp only [List.length_nil] at c3
          go_wp2_with fail
          go_ret
          exact ⟨ret_bool (by rw [er_mk]; rfl), HBX.out.bel⟩
        | cons x0 cs =>
          obtain ⟨b1, off1, rfl, hb1, hcx⟩ := clock_at (HP.out.cl.below HBX.out.bel) (k := 0) (x := x0) rfl
          have HIX := Lib.hid ((HP.out.ck x0 (by simp)).later HBX.out.bel)
          obtain ⟨xA, xc, xl⟩ := x0
          simp only [Ck.v, Nat.add_zero] at hcx
          dsimp only at HIX
          simp only [List.length_cons] at c3 hcm
          have hl0 : (((cs.length : Int) + 1) == 0) = false := beq_eq_false_iff_ne.2 (by omega)
          have hl1 : 0 < (cs.length : Int) + 1 := by omega
          obtain ⟨v, hv⟩ : ∃ z, isC xl = z := ⟨_, rfl⟩
          have HV := Lib.hid hv
          have HR : Hid (clockV (Vl.mk n m sA sc ss (some ⟨b1, off1, none⟩) cc (⟨xA, xc, xl⟩ :: cs) vA vc vs).er.c = (v && decide (0 < xl.length))) := by show clockV _ = _; rw [er_mk, ← hv]; rfl
          clear hv
          go_wp2_with fail
          refine (refIsC_at xA xc xl v _ HIX.out HV.out).mono ?_
          rintro e w3 ⟨rfl, hb3⟩
          have hcx3 := (hb3.cell (p := ⟨b1, off1, none⟩) (Nat.lt_of_lt_of_le hb1 HBX.out.bel.size)).trans hcx
          replace HBX := Lib.hid (HBX.out.later hb3)
          clear hb3 hcx c3 c2 i0
          have c3 := HBX.out.c3
          simp only [List.length_cons] at c3
          cases v with
          | false =>
            go_wp2_with fail
            go_ret
            exact ⟨ret_bool (by rw [HR.out]; rfl), HBX.out.bel⟩
          | true =>
            have hxl : xl.length ≤ 9223372036854775807 := by have := HIX.out.cap; have := HIX.out.top; unfold maxLen at this; omega
            go_wp2_with fail
            go_ret
            refine ⟨ret_bool ?_, HBX.out.bel⟩
            rw [HR.out]
            simp

set_option maxRecDepth 100000 in
set_option maxHeartbeats 4000000 in
theorem refIsV_8 (A : Option Addr) (c : Nat) (a : Sc) (x : Vl) (w : World) (hs : (Sc.mk 8 A c [a]).In w.heap.size w) (hx : x.In w) (p : Va → Bool) (ih : ∀ (y : Vl) (w : World), a.In w.heap.size w → y.In w → Calls Tryz.prog 32 #[a.val, y.val] w (RetV w (.bool (p y.er)))) : Calls Tryz.prog 32 #[(Sc.mk 8 A c [a]).val, x.val] w (RetV w (.bool (baseV 8 x.er && sibsV p x.er))) := by
  obtain ⟨n, m, sA, sc, ss, cA, cc, cs, vA, vc, vs⟩ := x
  have HS := Lib.hid hs
  have HX0 := Lib.hid hx
  clear hs
  have HB0 : Hid (Below w.heap.size w ((w.alloc (.cells #[.int .i64 8, .slice A 1 c] 24)).alloc (.cells #[.int .u64 n, .int .u64 m, .slice sA ss.length sc, .slice cA cs.length cc, .slice vA vs.length vc] 32))) := belAl (allocB _ _)
  have HX := Lib.hid (hx.later HB0.out)
  have P := hx.out
  have HP := Lib.hid P
  have HSB : Hid (ss.length ≤ maxLen) := Nat.le_trans P.sb.1 P.sb.2.1
  have hsm : ss.length ≤ 9223372036854775807 := by have := P.sb; unfold maxLen at this; omega
  have hcm : cs.length ≤ 9223372036854775807 := by have := P.cb; unfold maxLen at this; omega
  have hvm : vs.length ≤ 9223372036854775807 := by have := P.vb; unfold maxLen at this; omega
  obtain ⟨t, ht⟩ : ∃ z, fitsV 8 (Vl.mk n m sA sc ss cA cc cs vA vc vs).er = z := ⟨_, rfl⟩
  obtain ⟨u, hu⟩ : ∃ z, decide (R1.Srt ss) = z := ⟨_, rfl⟩
  obtain ⟨q, hq⟩ : ∃ z, decide (ss.length ≤ 40) = z := ⟨_, rfl⟩
  have HF : Hid (baseV 8 (Vl.mk n m sA sc ss cA cc cs vA vc vs).er = (t && (u && q))) := by
    show baseV _ _ = _
    unfold baseV
    rw [ht, er_mk, show (Va.mk n m ss (cs.map Ck.l) (vs.map Vl.er)).s = ss from rfl, hu, hq]
  have HT := Lib.hid ht
  have HU := Lib.hid hu
  have HQ := Lib.hid hq
  rw [HF.out]
  clear hx P ht hu hq HF
  simp only [S2.val_mk, val_mk, List.length_nil, List.length_cons, Nat.zero_add]
  go_enter Tryz.func32, Tryz.ntmps32
  go_wp2_with fail
  refine (refFits_at 8 A c 1 n m sA sc ss cA cc cs vA vc vs t _ HX.out HT.out).mono ?_
  rintro e w1 ⟨rfl, hb1⟩
  have HBX : Hid (Boxes w 8 A 1 c n m sA ss.length sc cA cs.length cc vA vs.length vc w1) := Boxes.later ⟨by go_simp, by go_simp, by go_simp, by go_simp, by go_simp, by go_simp, by go_simp, by simp, HB0.out⟩ hb1
  clear hb1 HB0 HX
  cases t with
  | false =>
    go_wp2_with fail
    go_ret
    exact ⟨rfl, HBX.out.bel⟩
  | true =>
    have c2 := HBX.out.c2
    go_wp2_with fail
    refine (refRises_at sA sc ss u _ (HP.out.sl.below HBX.out.bel) HSB.out HU.out).mono ?_
    rintro e w2 ⟨rfl, hb2⟩
    replace HBX := Lib.hid (HBX.out.later hb2)
    clear hb2 c2
    cases u with
    | false =>
      go_wp2_with fail
      go_ret
      exact ⟨rfl, HBX.out.bel⟩
    | true =>
      have c2 := HBX.out.c2
      have i0 := HBX.out.i0
      cases q with
      | false =>
        have dq : 40 < ss.length := by have := of_decide_eq_false HQ.out; omega
        go_wp2_with fail
        go_ret
        exact ⟨rfl, HBX.out.bel⟩
      | true =>
        have dq : decide (40 < (ss.length : Int)) = false := decide_eq_false (by have := of_decide_eq_true HQ.out; omega)
        have hlen : (Vl.mk n m sA sc ss cA cc cs vA vc vs).er.c.length = (Vl.mk n m sA sc ss cA cc cs vA vc vs).er.v.length := by
          have h := HT.out
          rw [er_mk, fits_ne 8 (by decide) (by decide) (by decide) (by decide) (by decide) (by decide) (by decide), Bool.and_eq_true] at h
          rw [er_mk]
          exact of_decide_eq_true h.2
        have HSI := Lib.hid ((HS.out.keep HBX.out.bel).up HBX.out.bel.size)
        have HXI := Lib.hid (HX0.out.later HBX.out.bel)
        have HSB8 := Lib.hid (refSib_any 8 A c a (.mk n m sA sc ss cA cc cs vA vc vs) w2 HSI.out HXI.out hlen p ih)
        clear hlen ih
        obtain ⟨ak, aA, ac, al⟩ := a
        simp only [S2.val_mk, val_mk, List.length_nil, List.length_cons, Nat.zero_add] at HSB8
        have i1 := HBX.out.i1
        have c0 := HBX.out.c0
        have c1 := HBX.out.c1
        have c3 := HBX.out.c3
        have c4 := HBX.out.c4
        go_wp2_with fail
        refine HSB8.out.mono ?_
        rintro e w3 ⟨rfl, hb3⟩
        have hbw3 := (HBX.out.later hb3).bel
        clear hb3
        generalize sibsV p (Vl.mk n m sA sc ss cA cc cs vA vc vs).er = z at *
        go_wp2_with fail
        go_ret
        exact ⟨rfl, hbw3⟩

end Go.Proofs.YtleejffjnknohaaGreat.V4

namespace Go.Proofs.YtleejffjnknohaaGreat.R1
open Go.RowKit

/-- The cells that hold the strings. -/
def cellsOf (ys : List Str) : List Value := ys.map fun x => Value.string (S x)

theorem cellsOf_get {ys : List Str} {j : Nat} {u : Value} (h : (cellsOf ys)[j]? = some u) : ∃ x, ys[j]? = some x ∧ u = .string (S x) := by
  unfold cellsOf at h
  rw [List.getElem?_map] at h
  cases hx : ys[j]? with
  | none => rw [hx] at h; cases h
  | some x => rw [hx] at h; exact ⟨x, rfl, by simpa using h.symm⟩

theorem cellsOf_at {ys : List Str} {j : Nat} {x : Str} (h : ys[j]? = some x) : (cellsOf ys)[j]? = some (.string (S x)) := by
  unfold cellsOf; rw [List.getElem?_map, h]; rfl

theorem cellsOf_one {ys : List Str} : ∀ u ∈ cellsOf ys, u.oneCell' = true := by
  intro u hu
  obtain ⟨x, _, rfl⟩ := List.mem_map.1 hu
  rfl

theorem cellsOf_len (ys : List Str) : (cellsOf ys).length = ys.length := by simp [cellsOf]
theorem cellsOf_append (xs ys : List Str) : cellsOf (xs ++ ys) = cellsOf xs ++ cellsOf ys := by simp [cellsOf]

/-- The value v is a slice of the call's own (from block 'base' on), or nil, and holds the strings ys. -/
def Own (w : World) (base : Nat) (v : Value) (ys : List Str) : Prop := w.ownsRow base 9 1 v ys.length (cellsOf ys)

theorem Own.nil (w : World) (base : Nat) : Own w base (.slice none 0 0) [] := World.ownsRow_nil w base _ _

theorem Own.form {w : World} {base : Nat} {v : Value} {ys : List Str} (h : Own w base v ys) :
    ∃ A c, v = .slice A ys.length c ∧ ys.length ≤ c ∧ c ≤ maxLen ∧ Lies w A ys := by
  rcases h.2 with ⟨rfl, h0⟩ | ⟨g, cap, cur, rfl, hb, hg, hnc, hcm, hcs, ht⟩
  · have : ys = [] := List.eq_nil_of_length_eq_zero h0
    subst this
    exact ⟨none, 0, rfl, Nat.le_refl _, Nat.zero_le _, .inl rfl⟩
  · refine ⟨_, cap, rfl, hnc, hcm, .inr ⟨g, 0, rfl, ?_, fun i x hx => ?_⟩⟩
    · rcases Nat.lt_or_ge g w.heap.size with hlt | hge
      · exact hlt
      · rw [Array.getElem?_eq_none hge] at hg; cases hg
    · have := World.ownsRow.cells h (g := g) rfl i _ (cellsOf_at hx)
      rwa [Addr.add_lit] at this

theorem Own.lt {w : World} {base : Nat} {v : Value} {ys : List Str} (h : Own w base v ys) {k : Nat} (hk : v.ownBlock = some k) : base ≤ k ∧ k < w.heap.size := World.ownsRow.lt h k hk

theorem Own.alloc {w : World} {base : Nat} {v : Value} {ys : List Str} (h : Own w base v ys) (o : Obj) : Own (w.alloc o) base v ys := World.ownsRow.alloc h o
theorem Own.drewN {w : World} {base : Nat} {v : Value} {ys : List Str} (h : Own w base v ys) (n : Nat) : Own (w.drewN n) base v ys := h
theorem Own.kept {w w' : World} {base : Nat} {v : Value} {ys : List Str} {row : Option Nat} (h : Own w base v ys) (hg : w.grownBy w' row) (hne : v.ownBlock = none ∨ v.ownBlock ≠ row) : Own w' base v ys := World.ownsRow.kept h hg hne

theorem Own.below {w w' : World} {base : Nat} {v : Value} {ys : List Str} (h : Own w base v ys) (hb : Below w.heap.size w w') : Own w' base v ys :=
  h.kept (row := none) ⟨hb.os, hb.tape, hb.output, hb.size, fun k hk _ => hb.block k hk⟩ (by
    cases hv : v.ownBlock with
    | none => exact .inl rfl
    | some k => exact .inr (by simp))

theorem Lies.grown {w w' : World} {A : Option Addr} {xs : List Str} {row : Option Nat} (h : Lies w A xs) (hg : w.grownBy w' row) (hne : ∀ a, A = some a → some a.block ≠ row) : Lies w' A xs := by
  rcases h with h | ⟨b, off, rfl, hb, h⟩
  · exact .inl h
  · exact .inr ⟨b, off, rfl, Nat.lt_of_lt_of_le hb hg.size, fun i x hx => hg.cell (h i x hx) (hne ⟨b, off, none⟩ rfl)⟩

theorem own_snoc {w : World} {base : Nat} {v : Value} {ys : List Str} {x : Str} (h : w.ownsRow base 9 1 v (ys.length + 1) (cellsOf ys ++ [.string (S x)])) : Own w base v (ys ++ [x]) := by
  unfold Own
  rw [cellsOf_append, List.length_append]
  exact h

theorem retL_of_own {w w' : World} {base : Nat} {v : Value} {ys zs : List Str} (h : Own w' base v ys) (e : ys = zs) (hb : Below w.heap.size w w') : RetL w zs (.returned v) w' := by
  subst e
  obtain ⟨A, c, rfl, h1, h2, h3⟩ := h.form
  exact ⟨A, c, rfl, h1, h2, h3, hb⟩

theorem Tryz.infoStr : (Tryz.prog.info? 9).map (fun i => (i.zero, i.size, i.bytes)) = some (some (.string { data := #[] }), 1, 16) := by kernel_rfl

section
variable (w : World)

theorem run_app_nil (base : Nat) (t ty : TypeId) (ht : Tryz.prog.underlying t = some (.slice 9)) (v : Value) (ys : List Str) (hown : Own w base v ys) (c : Nat) :
    (Builtin.append_ #[t, t] ty #[v, .slice none 0 c]).run Tryz.prog w = .ok v w := by
  obtain ⟨i0, hi, hz0, hz1, hz2⟩ := info_parts Tryz.infoStr
  rcases hown.2 with ⟨rfl, _⟩ | ⟨g, cap, cur, rfl, _, _, hnc, _⟩
  · simp [Builtin.append_, run_underlying ht, sizeOf, typeInfo, hi, Builtin.lenOf, Builtin.firstCells]
  · simp [Builtin.append_, run_underlying ht, sizeOf, typeInfo, hi, Builtin.lenOf, Builtin.firstCells, hnc, storeCells]

/-- append onto a row of the call's own, of whatever strings. -/
theorem run_app (base : Nat) (t ty : TypeId) (ht : Tryz.prog.underlying t = some (.slice 9)) (v : Value) (ys : List Str) (hown : Own w base v ys)
    (A : Option Addr) (c : Nat) (news : List Str) (hl : Lies w A news) (hlen : ys.length + news.length ≤ 1000000) (hbase : base ≤ w.heap.size) :
    ∃ v' w', (Builtin.append_ #[t, t] ty #[v, .slice A news.length c]).run Tryz.prog w = .ok v' w' ∧ Own w' base v' (ys ++ news) ∧ w.grownBy w' v.ownBlock ∧
      (v'.ownBlock = v.ownBlock ∨ v'.ownBlock = some w.heap.size) := by
  obtain ⟨i0, hi, hz0, hz1, hz2⟩ := info_parts Tryz.infoStr
  cases A with
  | none =>
    have hn : news = [] := by
      rcases hl with h | ⟨b, off, h, _⟩
      · exact h
      · cases h
    subst hn
    exact ⟨v, w, run_app_nil w base t ty ht v ys hown c, by simpa using hown, World.grownBy.refl w _, .inl rfl⟩
  | some a =>
    have hcells : ∀ j u, (cellsOf news)[j]? = some u → w.cell? (a.add j) = some u := by
      intro j u hu
      obtain ⟨x, hx, rfl⟩ := cellsOf_get hu
      rcases hl with h | ⟨b, off, h, _, hc⟩
      · subst h; simp at hx
      · cases h
        rw [Addr.add_lit]
        exact hc j x hx
    obtain ⟨v', w', hr, h2, h3, _, h5⟩ := run_append_own_at (P := Tryz.prog) w base t ty 9 i0 _ 1 16 ht hi hz0 hz1 hz2 rfl (by omega) v ys.length (cellsOf ys) hown a news.length c (cellsOf news)
      (by rw [cellsOf_len]; omega) hcells cellsOf_one (by unfold maxLen; omega) (by omega) hbase
    refine ⟨v', w', hr, ?_, h3, h5⟩
    unfold Own
    rw [cellsOf_append, List.length_append]
    exact h2

variable {o : Oper} {a : Act} {K : Act → World → Prop} {Q : Exit → Act → World → Prop}

theorem wp_app (s x : Operand) (t : TypeId) (ho : o.op = .call { callee := .builtin .append, args := #[s, x], argTypes := #[t, t] })
    (base : Nat) (ht : Tryz.prog.underlying t = some (.slice 9)) (v : Value) (ys : List Str) (hs : a.eval s = v) (hown : Own w base v ys)
    (A : Option Addr) (m c : Nat) (news : List Str) (hm : news.length = m) (hx : a.eval x = .slice A m c) (hl : Lies w A news) (hlen : ys.length + news.length ≤ 1000000) (hbase : base ≤ w.heap.size)
    (h : ∀ v' w', Own w' base v' (ys ++ news) → w.grownBy w' v.ownBlock → (v'.ownBlock = v.ownBlock ∨ v'.ownBlock = some w.heap.size) → K (a.put o.dst v') w') : o.wp Tryz.prog a w K Q := by
  subst hm
  obtain ⟨v', w', hr, h2, h3, h4⟩ := run_app w base t o.type ht v ys hown A c news hl hlen hbase
  unfold Oper.wp execOp
  simp only [ho, resolve, invoke, builtin, Sem.run_bind, Sem.run_pure, Result.andThen_ok, List.map_toArray, List.map_cons, List.map_nil, hs, hx, hr]
  exact h v' w' h2 h3 h4

theorem wpList_app {ops : Array Oper} {rest : List Oper} (hgd : o.guard = none) (s x : Operand) (t : TypeId) (ho : o.op = .call { callee := .builtin .append, args := #[s, x], argTypes := #[t, t] })
    (base : Nat) (ht : Tryz.prog.underlying t = some (.slice 9)) (v : Value) (ys : List Str) (hs : a.eval s = v) (hown : Own w base v ys)
    (A : Option Addr) (m c : Nat) (news : List Str) (hm : news.length = m) (hx : a.eval x = .slice A m c) (hl : Lies w A news) (hlen : ys.length + news.length ≤ 1000000) (hbase : base ≤ w.heap.size)
    (h : ∀ v' w', Own w' base v' (ys ++ news) → w.grownBy w' v.ownBlock → (v'.ownBlock = v.ownBlock ∨ v'.ownBlock = some w.heap.size) → wpList Tryz.prog ops Q rest (a.put o.dst v') w') : wpList Tryz.prog ops Q (o :: rest) a w :=
  wpList_plain hgd fun _ hK => wp_app w s x t ho base ht v ys hs hown A m c news hm hx hl hlen hbase fun v' w' h2 h3 h4 => hK _ _ (h v' w' h2 h3 h4)

theorem step_app {ops : Array Oper} {E : Prop} (hgd : o.guard = none) (s x : Operand) (t : TypeId) (ho : o.op = .call { callee := .builtin .append, args := #[s, x], argTypes := #[t, t] })
    (base : Nat) (ht : Tryz.prog.underlying t = some (.slice 9)) (v : Value) (ys : List Str) (hs : a.eval s = v) (hown : Own w base v ys)
    (A : Option Addr) (m c : Nat) (news : List Str) (hm : news.length = m) (hx : a.eval x = .slice A m c) (hl : Lies w A news) (hlen : ys.length + news.length ≤ 1000000) (hbase : base ≤ w.heap.size)
    (h : ∀ v' w', Own w' base v' (ys ++ news) → w.grownBy w' v.ownBlock → (v'.ownBlock = v.ownBlock ∨ v'.ownBlock = some w.heap.size) → K (a.put o.dst v') w') :
    if Region.wanted o (yielded ops a.tmps) = true then Oper.wp Tryz.prog o a w K Q else E := by
  have hw : Region.wanted o (yielded ops a.tmps) = true := by simp [Region.wanted, hgd]
  rw [if_pos hw]
  exact wp_app w s x t ho base ht v ys hs hown A m c news hm hx hl hlen hbase h
end
end Go.Proofs.YtleejffjnknohaaGreat.R1

namespace Go.Proofs.YtleejffjnknohaaGreat.R1
open Go.RowKit

/-- s put into a row, where it is not there yet. -/
def putL (s : Str) : List Str → List Str
  | [] => [s]
  | x :: r => if x = s then x :: r else if s < x then s :: x :: r else x :: putL s r

theorem putL_hit {s : Str} : ∀ {xs : List Str} {k : Nat}, (∀ x ∈ xs.take k, x < s) → xs[k]? = some s → xs = putL s xs
  | [], _, _, h => by simp at h
  | x :: r, 0, _, h => by
    simp at h
    simp [putL, h]
  | x :: r, k + 1, h0, h => by
    have hx : x < s := h0 x (by simp)
    have e := putL_hit (s := s) (xs := r) (k := k) (fun y hy => h0 y (by simp [hy])) (by simpa using h)
    rw [putL, if_neg (ne_of_slt hx), if_neg (str_asymm hx), ← e]

theorem putL_mid {s : Str} : ∀ {xs : List Str} {k : Nat} {y : Str}, (∀ x ∈ xs.take k, x < s) → xs[k]? = some y → s < y → xs.take k ++ [s] ++ xs.drop k = putL s xs
  | [], _, _, _, h, _ => by simp at h
  | x :: r, 0, y, _, h, hy => by
    simp at h
    subst h
    have hne : x ≠ s := fun e => str_irrefl s (by rw [e] at hy; exact hy)
    simp [putL, hy, hne]
  | x :: r, k + 1, y, h0, h, hy => by
    have hx : x < s := h0 x (by simp)
    have e := putL_mid (s := s) (xs := r) (k := k) (fun y hy => h0 y (by simp [hy])) (by simpa using h) hy
    rw [putL, if_neg (ne_of_slt hx), if_neg (str_asymm hx), ← e]
    simp

theorem putL_end {s : Str} : ∀ {xs : List Str}, (∀ x ∈ xs, x < s) → xs ++ [s] = putL s xs
  | [], _ => rfl
  | x :: r, h0 => by
    have hx : x < s := h0 x (by simp)
    have e := putL_end (s := s) (xs := r) (fun y hy => h0 y (by simp [hy]))
    rw [putL, if_neg (ne_of_slt hx), if_neg (str_asymm hx), ← e]
    simp

theorem lt_snoc {xs : List Str} {s y : Str} {k : Nat} (h : ∀ x ∈ xs.take k, x < s) (hy : xs[k]? = some y) (hlt : y < s) : ∀ x ∈ xs.take (k + 1), x < s := by
  obtain ⟨hk, he⟩ := List.getElem?_eq_some_iff.1 hy
  rw [List.take_succ_eq_append_getElem hk, he]
  intro a ha
  rcases List.mem_append.1 ha with h1 | h1
  · exact h a h1
  · rw [List.mem_singleton.1 h1]; exact hlt

theorem Lies.take {w : World} {b off : Nat} {xs : List Str} (hb : b < w.heap.size) (h : ∀ i x, xs[i]? = some x → w.cell? ⟨b, off + i, none⟩ = some (.string (S x))) (k : Nat) : Lies w (some ⟨b, off, none⟩) (xs.take k) :=
  .inr ⟨b, off, rfl, hb, fun i x hx => h i x (by
    rw [List.getElem?_take] at hx
    split at hx
    · exact hx
    · cases hx)⟩

theorem Lies.drop {w : World} {b off : Nat} {xs : List Str} (hb : b < w.heap.size) (h : ∀ i x, xs[i]? = some x → w.cell? ⟨b, off + i, none⟩ = some (.string (S x))) (k : Nat) : Lies w (some ⟨b, off + k, none⟩) (xs.drop k) :=
  .inr ⟨b, off + k, rfl, hb, fun i x hx => by
    rw [Nat.add_assoc]
    exact h _ x (by rwa [List.getElem?_drop] at hx)⟩

theorem Lies.new (w : World) (s : Str) (t : TypeId) : Lies (w.alloc (.cells #[.string (S s)] t)) (some ⟨w.heap.size, 0, none⟩) [s] :=
  .inr ⟨_, _, rfl, by simp, fun i x hx => by
    match i, hx with
    | 0, hx =>
      simp at hx
      subst hx
      simp⟩

set_option maxHeartbeats 1000000 in
theorem put_any (A : Option Addr) (c : Nat) (xs : List Str) (s : Str) (w : World) (hl : Lies w A xs) (hn : xs.length ≤ 900000) (hc : xs.length ≤ c) (hcm : c ≤ maxLen) :
    Calls Tryz.prog 30 #[.slice A xs.length c, .string (S s)] w (RetL w (putL s xs)) := by
  unfold maxLen at hcm
  go_enter Tryz.func30, Tryz.ntmps30
  go_wp2
  go_loop [5] (fun i => ∃ k : Nat, k ≤ xs.length ∧ i = .int .i64 k ∧ Hid (∀ x ∈ xs.take k, x < s)) (fun i => xs.length - (intOf i).toNat)
  case atStart => exact ⟨0, Nat.zero_le _, rfl, by simp [Hid]⟩
  case round =>
    obtain ⟨k, hk, rfl, h0⟩ := hrel
    by_cases hlt : k < xs.length
    · obtain ⟨b, off, rfl, hb, hcl⟩ := hl.get hlt
      obtain ⟨x, hx⟩ : ∃ x, xs[k]? = some x := ⟨_, List.getElem?_eq_getElem hlt⟩
      have hcell := hcl k x hx
      have HX := Lib.hid hx
      have HC := Lib.hid hcl
      have HL := Lib.hid hl
      clear hx hcl hl
      rcases str_tri x s with hxs | hxs | hxs
      · have hb1 := bl_true hxs
        have hb2 := beq_str (ne_of_slt hxs)
        have HN := Lib.hid hxs
        clear hxs
        go_wp2
        go_round
        case rel => exact ⟨k + 1, by omega, by go_num, lt_snoc h0.out HX.out HN.out⟩
        case measure => simp [intOf]; omega
      · subst hxs
        go_wp2
        go_ret
        have e := putL_hit h0.out HX.out
        unfold RetL
        rw [← e]
        exact ⟨_, c, rfl, hc, hcm, HL.out, Below.refl _ _⟩
      · have hb1 := bl_false (str_asymm hxs)
        have hb2 := beq_str (ne_of_slt hxs).symm
        have HN := Lib.hid hxs
        clear hxs
        go_wp2
        have hkc : k ≤ c := by omega
        have hkc' : ¬ c = k := by omega
        go_region_law (first
          | (refine step_app _ rfl (.const (.slice none 0 0)) (.tmp 27) _ rfl w.heap.size Tryz.underlying29 (.slice none 0 0) [] ?qs (Own.nil _ _) (some ⟨b, off, none⟩) k c (xs.take k) ?qm ?qx ?ql ?qn ?qb ?_
             case qs => go_simp
             case qm => simp; omega
             case qx => go_simp
             case ql => first | exact Lies.take hb HC.out k | exact (Lies.take hb HC.out k).alloc _
             case qn => simp; omega
             case qb => simp
             intro v1 w1 hown1 hg1 hat1
             have hbw1 : Below w.heap.size w w1 := by
               first
                 | exact (Below.refl _ w).drew.grown hg1 (Nat.le_refl _) (by simp [Value.ownBlock])
                 | exact ((Below.refl _ w).alloc (Nat.le_refl _) _).drew.grown hg1 (by simp) (by simp [Value.ownBlock])
             have hnew := hg1)
          | (refine step_app _ rfl (.tmp 28) (.tmp 30) _ rfl w.heap.size Tryz.underlying29 v1 ([] ++ xs.take k) ?qs (hown1.alloc _) (some ⟨w1.heap.size, 0, none⟩) 1 1 [s] rfl ?qx (Lies.new _ _ _) ?qn ?qb ?_
             case qs => go_simp
             case qx => go_simp
             case qn => simp; omega
             case qb => (have := hbw1.size; simp; omega)
             intro v2 w2 hown2 hg2 hat2
             have hbw2 : Below w.heap.size w w2 := (hbw1.alloc hbw1.size _).grown hg2 (by have := hbw1.size; simp; omega) (fun k hk => (hown1.lt hk).1))
          | (refine step_app _ rfl (.tmp 28) (.tmp 30) _ rfl w.heap.size Tryz.underlying29 v1 ([] ++ xs.take k) ?qs hown1 (some ⟨w.heap.size, 0, none⟩) 1 1 [s] rfl ?qx ?ql ?qn hbw1.size ?_
             case qs => go_simp
             case qx => go_simp
             case ql => exact Lies.grown (w := (w.alloc (.cells #[.string (S s)] 9)).drew) (Lies.new w s _) hnew (by simp [Value.ownBlock])
             case qn => simp; omega
             intro v2 w2 hown2 hg2 hat2
             have hbw2 : Below w.heap.size w w2 := hbw1.grown hg2 hbw1.size (fun k hk => (hown1.lt hk).1))
          | (refine step_app _ rfl (.tmp 31) (.tmp 34) _ rfl w.heap.size Tryz.underlying29 v2 (([] ++ xs.take k) ++ [s]) ?qs hown2 (some ⟨b, off + k, none⟩) (xs.length - k) (c - k) (xs.drop k) ?qm ?qx ?ql ?qn hbw2.size ?_
             case qs => go_simp
             case qm => simp
             case qx => go_simp
             case ql => exact (Lies.drop hb HC.out k).below hbw2
             case qn => simp; omega
             intro v3 w3 hown3 hg3 hat3
             have hbw3 : Below w.heap.size w w3 := hbw2.grown hg3 hbw2.size (fun k hk => (hown2.lt hk).1)))
        all_goals
          go_wp2
          go_ret
          exact retL_of_own hown3 (by rw [← putL_mid h0.out HX.out HN.out]; simp) hbw3
    · have h1 : ∀ x ∈ xs, x < s := by
        have := h0.out
        rwa [List.take_of_length_le (by omega)] at this
      have H1 := Lib.hid h1
      have HL := Lib.hid hl
      clear h1 hl
      go_wp2_with (first
        | (at_builtin
           refine wpList_app _ rfl (.const (.slice none 0 0)) (.tmp 36) _ rfl w.heap.size Tryz.underlying29 (.slice none 0 0) [] rfl (Own.nil _ _) A xs.length c xs rfl rfl HL.out ?qn ?qb ?_
           case qn => simp; omega
           case qb => simp
           intro v1 w1 hown1 hg1 hat1
           have hbw1 : Below w.heap.size w w1 := (Below.refl _ w).grown hg1 (Nat.le_refl _) (by simp [Value.ownBlock]))
        | (at_builtin
           refine wpList_app _ rfl (.tmp 37) (.tmp 39) _ rfl w.heap.size Tryz.underlying29 v1 ([] ++ xs) rfl (hown1.alloc _) (some ⟨w1.heap.size, 0, none⟩) 1 1 [s] rfl rfl (Lies.new _ _ _) ?qn ?qb ?_
           case qn => simp; omega
           case qb => (have := hbw1.size; simp; omega)
           intro v2 w2 hown2 hg2 hat2
           have hbw2 : Below w.heap.size w w2 := (hbw1.alloc hbw1.size _).grown hg2 (by have := hbw1.size; simp; omega) (fun k hk => (hown1.lt hk).1)))
      go_ret
      exact retL_of_own hown2 (by rw [← putL_end H1.out]; simp) hbw2
end Go.Proofs.YtleejffjnknohaaGreat.R1

namespace Go.Proofs.YtleejffjnknohaaGreat.R1
open Go.RowKit

/-- The strings of b put, one by one, into a. -/
def bothL (a b : List Str) : List Str := b.foldl (fun acc x => putL x acc) a
/-- The strings put, one by one, into nothing. -/
def sortL (xs : List Str) : List Str := bothL [] xs

theorem putL_len (s : Str) : ∀ xs : List Str, (putL s xs).length ≤ xs.length + 1
  | [] => by simp [putL]
  | x :: r => by
    have := putL_len s r
    unfold putL
    split
    · simp
    · split
      · simp
      · simp; omega

theorem bothL_snoc {a xs : List Str} {k : Nat} {x : Str} (hx : xs[k]? = some x) : bothL a (xs.take (k + 1)) = putL x (bothL a (xs.take k)) := by
  obtain ⟨hk, he⟩ := List.getElem?_eq_some_iff.1 hx
  rw [List.take_succ_eq_append_getElem hk, he]
  simp [bothL, List.foldl_append]

theorem bothL_len (a : List Str) : ∀ b : List Str, (bothL a b).length ≤ a.length + b.length := by
  intro b
  induction b generalizing a with
  | nil => simp [bothL]
  | cons x r ih =>
    have h1 := ih (putL x a)
    have h2 := putL_len x a
    unfold bothL at h1 ⊢
    simp only [List.foldl_cons, List.length_cons]
    omega

set_option maxHeartbeats 400000 in
theorem refSort_any (A : Option Addr) (c : Nat) (xs : List Str) (w : World) (hl : Lies w A xs) (hn : xs.length ≤ 400000) :
    Calls Tryz.prog 20 #[.slice A xs.length c] w (RetL w (sortL xs)) := by
  go_enter Tryz.func20, Tryz.ntmps20
  go_wp2
  go_loopw [3, 4] (fun out i wr => ∃ (k : Nat) (B : Option Addr) (d : Nat) (ys : List Str), k ≤ xs.length ∧ i = .int .i64 k ∧ out = .slice B ys.length d ∧ ys.length ≤ k ∧ ys.length ≤ d ∧ d ≤ maxLen ∧ Lies wr B ys ∧ Hid (ys = sortL (xs.take k)) ∧ Below w.heap.size w wr) (fun _ i _ => xs.length - (intOf i).toNat)
  case atStart => exact ⟨0, none, 0, [], Nat.zero_le _, rfl, rfl, Nat.le_refl _, Nat.le_refl _, Nat.zero_le _, Lies.nil, by simp [Hid, sortL, bothL], Below.refl _ _⟩
  case round =>
    obtain ⟨k, B, d, ys, hk, rfl, rfl, hyk, hyd, hdm, hly, h0, hbw⟩ := hrel
    by_cases hlt : k < xs.length
    · obtain ⟨b, off, rfl, hb, hc⟩ := (hl.below hbw).get hlt
      obtain ⟨x, hx⟩ : ∃ x, xs[k]? = some x := ⟨_, List.getElem?_eq_getElem hlt⟩
      have hcell := hc k x hx
      have HX := Lib.hid hx
      clear hx hc hl
      go_wp2_with fail
      refine (put_any B d ys x wr hly (by omega) hyd hdm).mono ?_
      rintro e w' ⟨B', d', rfl, h1, h2, h3, h4⟩
      go_wp2
      go_roundw
      case rel =>
        refine ⟨k + 1, B', d', putL x ys, by omega, by go_num, rfl, ?_, h1, h2, h3, ?_, hbw.trans (h4.mono hbw.size)⟩
        · have := putL_len x ys; omega
        · have e := bothL_snoc (a := []) HX.out
          show putL x ys = sortL (xs.take (k + 1))
          rw [sortL, e, h0.out]; rfl
      case measure => simp [intOf]; omega
    · go_wp2
      go_ret
      have e : sortL xs = ys := by
        have := h0.out
        rw [List.take_of_length_le (by omega)] at this
        exact this.symm
      rw [e]
      exact ⟨B, d, rfl, hyd, hdm, hly, hbw⟩
end Go.Proofs.YtleejffjnknohaaGreat.R1

namespace Go.Proofs.YtleejffjnknohaaGreat.R1
open Go.RowKit

set_option maxHeartbeats 400000 in
theorem refBoth_any (A A' : Option Addr) (c c' : Nat) (us xs : List Str) (w : World) (hla : Lies w A us) (hl : Lies w A' xs) (hna : us.length ≤ 400000) (hn : xs.length ≤ 400000) :
    Calls Tryz.prog 17 #[.slice A us.length c, .slice A' xs.length c'] w (RetL w (bothL us xs)) := by
  have HLA := Lib.hid hla
  clear hla
  go_enter Tryz.func17, Tryz.ntmps17
  go_wp2_with (at_builtin
               refine wpList_app _ rfl (.const (.slice none 0 0)) (.tmp 7) _ rfl w.heap.size Tryz.underlying29 (.slice none 0 0) [] rfl (Own.nil _ _) A us.length c us rfl rfl HLA.out ?qn ?qb ?_
               case qn => simp; omega
               case qb => simp
               intro v1 w1 hown1 hg1 hat1
               have hbw1 : Below w.heap.size w w1 := (Below.refl _ w).grown hg1 (Nat.le_refl _) (by simp [Value.ownBlock]))
  obtain ⟨B0, d0, rfl, hd0, hd1, hl0⟩ := hown1.form
  simp only [List.nil_append] at hd0 hd1 hl0 hown1 ⊢
  go_loopw [5, 6] (fun out i wr => ∃ (k : Nat) (B : Option Addr) (d : Nat) (ys : List Str), k ≤ xs.length ∧ i = .int .i64 k ∧ out = .slice B ys.length d ∧ ys.length ≤ us.length + k ∧ ys.length ≤ d ∧ d ≤ maxLen ∧ Lies wr B ys ∧ Hid (ys = bothL us (xs.take k)) ∧ Below w.heap.size w wr) (fun _ i _ => xs.length - (intOf i).toNat)
  case atStart => exact ⟨0, B0, d0, us, Nat.zero_le _, rfl, rfl, Nat.le_refl _, hd0, hd1, hl0, by simp [Hid, bothL], hbw1⟩
  case round =>
    obtain ⟨k, B, d, ys, hk, rfl, rfl, hyk, hyd, hdm, hly, h0, hbw⟩ := hrel
    by_cases hlt : k < xs.length
    · obtain ⟨b, off, rfl, hb, hc⟩ := (hl.below hbw).get hlt
      obtain ⟨x, hx⟩ : ∃ x, xs[k]? = some x := ⟨_, List.getElem?_eq_getElem hlt⟩
      have hcell := hc k x hx
      have HX := Lib.hid hx
      clear hx hc hl hat1 hg1 hown1 hl0
      go_wp2_with fail
      refine (put_any B d ys x wr hly (by omega) hyd hdm).mono ?_
      rintro e w' ⟨B', d', rfl, h1, h2, h3, h4⟩
      go_wp2
      go_roundw
      case rel =>
        refine ⟨k + 1, B', d', putL x ys, by omega, by go_num, rfl, ?_, h1, h2, h3, ?_, hbw.trans (h4.mono hbw.size)⟩
        · have := putL_len x ys; omega
        · show putL x ys = bothL us (xs.take (k + 1))
          rw [bothL_snoc HX.out, h0.out]
      case measure => simp [intOf]; omega
    · clear hat1 hg1 hown1 hl0
      go_wp2
      go_ret
      have e : bothL us xs = ys := by
        have := h0.out
        rw [List.take_of_length_le (by omega)] at this
        exact this.symm
      rw [e]
      exact ⟨B, d, rfl, hyd, hdm, hly, hbw⟩

end Go.Proofs.YtleejffjnknohaaGreat.R1

namespace Go.Proofs.YtleejffjnknohaaGreat.R1

theorem srt_ext : ∀ {xs ys : List Str}, Srt xs → Srt ys → (∀ x, x ∈ xs ↔ x ∈ ys) → xs = ys
  | [], [], _, _, _ => rfl
  | [], y :: ys, _, _, h => absurd ((h y).2 (by simp)) (by simp)
  | x :: xs, [], _, _, h => absurd ((h x).1 (by simp)) (by simp)
  | x :: xs, y :: ys, hx, hy, h => by
    obtain ⟨hx1, hx2⟩ := List.pairwise_cons.1 hx
    obtain ⟨hy1, hy2⟩ := List.pairwise_cons.1 hy
    have e : x = y := by
      rcases List.mem_cons.1 ((h x).1 (by simp)) with h1 | h1
      · exact h1
      · rcases List.mem_cons.1 ((h y).2 (by simp)) with h2 | h2
        · exact h2.symm
        · exact absurd (str_trans (hx1 y h2) (hy1 x h1)) (str_irrefl x)
    subst e
    refine congrArg _ (srt_ext hx2 hy2 fun z => ⟨fun hz => ?_, fun hz => ?_⟩)
    · rcases List.mem_cons.1 ((h z).1 (by simp [hz])) with h1 | h1
      · subst h1; exact absurd (hx1 z hz) (str_irrefl z)
      · exact h1
    · rcases List.mem_cons.1 ((h z).2 (by simp [hz])) with h1 | h1
      · subst h1; exact absurd (hy1 z hz) (str_irrefl z)
      · exact h1

theorem mem_putL {s x : Str} : ∀ {xs : List Str}, x ∈ putL s xs ↔ x = s ∨ x ∈ xs
  | [] => by simp [putL]
  | y :: r => by
    unfold putL
    split
    · rename_i h; subst h; simp
    · split
      · simp
      · rw [List.mem_cons, mem_putL (xs := r), List.mem_cons]
        constructor
        · rintro (h | h | h)
          · exact .inr (.inl h)
          · exact .inl h
          · exact .inr (.inr h)
        · rintro (h | h | h)
          · exact .inr (.inl h)
          · exact .inl h
          · exact .inr (.inr h)

theorem srt_putL {s : Str} : ∀ {xs : List Str}, Srt xs → Srt (putL s xs)
  | [], _ => by simp [putL]
  | y :: r, h => by
    obtain ⟨h1, h2⟩ := List.pairwise_cons.1 h
    unfold putL
    split
    · exact h
    · rename_i hne
      split
      · rename_i hlt
        refine List.pairwise_cons.2 ⟨fun z hz => ?_, h⟩
        rcases List.mem_cons.1 hz with e | e
        · rw [e]; exact hlt
        · exact str_trans hlt (h1 z e)
      · rename_i hge
        refine List.pairwise_cons.2 ⟨fun z hz => ?_, srt_putL h2⟩
        rcases mem_putL.1 hz with e | e
        · rw [e]
          rcases str_tri y s with k | k | k
          · exact k
          · exact absurd k hne
          · exact absurd k hge
        · exact h1 z e

theorem mem_bothL {x : Str} : ∀ {b a : List Str}, x ∈ bothL a b ↔ x ∈ a ∨ x ∈ b
  | [], a => by simp [bothL]
  | y :: r, a => by
    have := mem_bothL (x := x) (b := r) (a := putL y a)
    unfold bothL at this ⊢
    rw [List.foldl_cons, this, mem_putL, List.mem_cons]
    constructor
    · rintro ((h | h) | h)
      · exact .inr (.inl h)
      · exact .inl h
      · exact .inr (.inr h)
    · rintro (h | h | h)
      · exact .inl (.inr h)
      · exact .inl (.inl h)
      · exact .inr h

theorem srt_bothL : ∀ {b a : List Str}, Srt a → Srt (bothL a b)
  | [], _, h => by simpa [bothL] using h
  | y :: r, a, h => by
    have := srt_bothL (b := r) (srt_putL (s := y) h)
    unfold bothL at this ⊢
    rwa [List.foldl_cons]

theorem mem_sortL {x : Str} {xs : List Str} : x ∈ sortL xs ↔ x ∈ xs := by unfold sortL; rw [mem_bothL]; simp
theorem sortL_len (xs : List Str) : (sortL xs).length ≤ xs.length := by have := bothL_len [] xs; simpa [sortL] using this

end Go.Proofs.YtleejffjnknohaaGreat.R1
