/- What a value by a schema is, as plain mathematics; what the reference's siblings does. No condition but that what it takes lies in memory. What Rises does, of the reference, and rises, of the program. No condition but that the slices read as strings. What the reference's is and Is do. No condition but that what they take lies in memory. Rows of strings that a call owns, and append onto them. No condition. What Put of the reference does. No condition but that the slice reads as strings, at most 900000. What Sort and Both of the reference do. No condition but that the slices read as strings, at most 400000. What Both and Without of the reference do. No condition but that the slices read us strings, at most 400000. Rows that rise are known by what is in them: plain mathematics. No condition. -/
import Derived.Test.YtdbohojncbeajaaGreatMo03
import Derived.Test.YtdbohojncbeajaaGreatMo01
import Derived.Test.YtdbohojncbeajaaGreatRows
import Derived.Test.YtdbohojncbeajaaGreatMo02
import Derived.Deep.RegionLaw
import Derived.Lib.SlicesCompact
namespace Go.Proofs.YtdbohojncbeajaaGreat.V4
open Go.RowKit
open C3 (Tk Asc isC ofC cmpC Nok In belAl allocB drewB RetT)
open S2 (Tr Sc isT)

def lastAhead (pre : List (List Tk)) (c : List Tk) : Bool := match pre.getLast? with
  | none => true
  | some d => aheadC d c

/-- Versions: pre has come, the rest is to come. -/
def sibGo (p : Va → Bool) : List (List Tk) → List (List Tk) → List Va → Bool
  | pre, c :: cs, v :: vs => isC c && (p v && (lastAhead pre c && (pre.all (fun d => decide (cmpC d c = 2)) && sibGo p (pre ++ [c]) cs vs)))
  | _, _, _ => true

def sibsV (p : Va → Bool) (x : Va) : Bool := decide (x.c.length ≤ 40) && sibGo p [] x.c x.v

/-- The cells that stand while siblings runs: In of the schema's box, C and V of the value's, the one schema. -/
structure SibCells (w W : World) (A : Option Addr) (c : Nat) (b off : Nat) (ak : Int) (aA : Option Addr) (ac al : Nat) (cA : Option Addr) (cc cn : Nat) (vA : Option Addr) (vc vn : Nat) : Prop where
  i1 : W.cell? ⟨w.heap.size, 1, none⟩ = some (.slice A 1 c)
  c3 : W.cell? ⟨w.heap.size + 1, 3, none⟩ = some (.slice cA cn cc)
  c4 : W.cell? ⟨w.heap.size + 1, 4, none⟩ = some (.slice vA vn vc)
  s0 : W.cell? ⟨b, off, none⟩ = some (.int .i64 ak)
  s1 : W.cell? ⟨b, off + 1, none⟩ = some (.slice aA al ac)
  sz : w.heap.size + 1 < W.heap.size
  bb : b < W.heap.size
  bel : Below w.heap.size w W

theorem SibCells.later {w W W' : World} {A : Option Addr} {c b off : Nat} {ak : Int} {aA : Option Addr} {ac al : Nat} {cA : Option Addr} {cc cn : Nat} {vA : Option Addr} {vc vn : Nat} (h : SibCells w W A c b off ak aA ac al cA cc cn vA vc vn) (hb : Below W.heap.size W W') :
    SibCells w W' A c b off ak aA ac al cA cc cn vA vc vn :=
  ⟨(hb.cell (p := ⟨w.heap.size, 1, none⟩) (by have := h.sz; show w.heap.size < _; omega)).trans h.i1, (hb.cell (p := ⟨w.heap.size + 1, 3, none⟩) h.sz).trans h.c3, (hb.cell (p := ⟨w.heap.size + 1, 4, none⟩) h.sz).trans h.c4, (hb.cell (p := ⟨b, off, none⟩) h.bb).trans h.s0, (hb.cell (p := ⟨b, off + 1, none⟩) h.bb).trans h.s1,
    Nat.lt_of_lt_of_le h.sz hb.size, Nat.lt_of_lt_of_le h.bb hb.size, h.bel.trans (hb.mono h.bel.size)⟩

/-- .. and the clock and the value at one place. -/
structure SibE (w : World) (A : Option Addr) (c : Nat) (b off : Nat) (ak : Int) (aA : Option Addr) (ac : Nat) (al : List Sc) (cA : Option Addr) (cc cn : Nat) (vA : Option Addr) (vc vn : Nat) (b1 o1 b2 o2 : Nat) (x : Ck) (y : Vl) (W : World) : Prop where
  S : SibCells w W A c b off ak aA ac al.length cA cc cn vA vc vn
  x0 : W.cell? ⟨b1, o1, none⟩ = some (.slice x.A x.l.length x.c)
  y0 : W.cell? ⟨b2, o2, none⟩ = some (.int .u64 y.n)
  y1 : W.cell? ⟨b2, o2 + 1, none⟩ = some (.int .u64 y.m)
  y2 : W.cell? ⟨b2, o2 + 2, none⟩ = some y.s1
  y3 : W.cell? ⟨b2, o2 + 3, none⟩ = some y.c1
  y4 : W.cell? ⟨b2, o2 + 4, none⟩ = some y.v1
  l1 : b1 < W.heap.size
  l2 : b2 < W.heap.size
  ix : In W x.A x.c x.l
  iy : y.In W
  ia : (Sc.mk ak aA ac al).In W.heap.size W

theorem SibE.later {w : World} {A : Option Addr} {c b off : Nat} {ak : Int} {aA : Option Addr} {ac : Nat} {al : List Sc} {cA : Option Addr} {cc cn : Nat} {vA : Option Addr} {vc vn b1 o1 b2 o2 : Nat} {x : Ck} {y : Vl} {W W' : World}
    (h : SibE w A c b off ak aA ac al cA cc cn vA vc vn b1 o1 b2 o2 x y W) (hb : Below W.heap.size W W') : SibE w A c b off ak aA ac al cA cc cn vA vc vn b1 o1 b2 o2 x y W' :=
  ⟨h.S.later hb, (hb.cell (p := ⟨b1, o1, none⟩) h.l1).trans h.x0, (hb.cell (p := ⟨b2, o2, none⟩) h.l2).trans h.y0, (hb.cell (p := ⟨b2, o2 + 1, none⟩) h.l2).trans h.y1, (hb.cell (p := ⟨b2, o2 + 2, none⟩) h.l2).trans h.y2, (hb.cell (p := ⟨b2, o2 + 3, none⟩) h.l2).trans h.y3, (hb.cell (p := ⟨b2, o2 + 4, none⟩) h.l2).trans h.y4,
    Nat.lt_of_lt_of_le h.l1 hb.size, Nat.lt_of_lt_of_le h.l2 hb.size, h.ix.later hb, h.iy.later hb, h.ia.later hb⟩

/-- The clock at another place of the same row. -/
structure SibZ (b1 o1 : Nat) (x : Ck) (W : World) : Prop where
  x0 : W.cell? ⟨b1, o1, none⟩ = some (.slice x.A x.l.length x.c)
  l1 : b1 < W.heap.size
  ix : In W x.A x.c x.l
theorem SibZ.later {b1 o1 : Nat} {x : Ck} {W W' : World} (h : SibZ b1 o1 x W) (hb : Below W.heap.size W W') : SibZ b1 o1 x W' := ⟨(hb.cell (p := ⟨b1, o1, none⟩) h.l1).trans h.x0, Nat.lt_of_lt_of_le h.l1 hb.size, h.ix.later hb⟩

theorem takeH {P : Program} {ops : Array Oper} {Q : Exit → Act → World → Prop} {md : Region.Mode} {S : World → Prop} (i d : Nat) {oi : Oper} {v : Value} {fuel : Nat} {listed : Array Bool} {l : List Value} {df : List Deferred} {w : World}
    (hi : ops[i]? = some oi) (hd : oi.dst = some d) (hs : Region.noSelect ops = true) (hf : Region.free md ops listed i = true) (hr : (Region.ready md ops listed).contains i = true)
    (hQ : ∀ c a w, Q (.panic c) (Act.put a (some d) v) w → Q (.panic c) a w) (hy : YieldsIf P ops S oi v ⟨l.toArray, df⟩) (hS : S w)
    (h : wpAnyH P md ops Q S fuel (listed.setIfInBounds i true) ⟨(l.set d v).toArray, df⟩ w) : wpAnyH P md ops Q S (fuel + 1) listed ⟨l.toArray, df⟩ w := by
  refine wpAnyH_take hi hs hf hr (by rw [hd]; exact hQ) hy hS ?_
  rw [hd]
  simpa [Act.put] using h

end Go.Proofs.YtdbohojncbeajaaGreat.V4

namespace Go.Proofs.YtdbohojncbeajaaGreat.R1
open Go.RowKit

set_option maxHeartbeats 400000 in
theorem rises_any (A : Option Addr) (c : Nat) (xs : List Str) (w : World) (hl : Lies w A xs) (hn : xs.length ≤ maxLen) :
    Calls Tryz.prog 122 #[.slice A xs.length c] w fun e w' => e = .returned (.bool (decide (Srt xs))) ∧ ∃ n, w' = w.drewN n := by
  unfold maxLen at hn
  go_enter Tryz.func122, Tryz.ntmps122
  go_wp2
  go_loopw [3] (fun i wr => ∃ k n : Nat, (k + 1 ≤ xs.length ∨ k = 0) ∧ i = .int .i64 (k + 1 : Nat) ∧ wr = w.drewN n ∧ Hid (Srt (xs.take (k + 1)))) (fun i _ => xs.length - (intOf i).toNat)
  case atStart => exact ⟨0, 0, .inr rfl, rfl, rfl, srt_take_one xs⟩
  case round =>
    obtain ⟨k, n, hk, rfl, rfl, h0⟩ := hrel
    by_cases hlt : k + 1 < xs.length
    · obtain ⟨b, off, rfl, hb, hc⟩ := hl.get hlt
      obtain ⟨x, hx⟩ : ∃ x, xs[k]? = some x := ⟨_, List.getElem?_eq_getElem (by omega)⟩
      obtain ⟨y, hy⟩ : ∃ x, xs[k + 1]? = some x := ⟨_, List.getElem?_eq_getElem hlt⟩
      have hcx := hc k x hx
      have hcy := hc (k + 1) y hy
      have HX := Lib.hid hx
      have HY := Lib.hid hy
      clear hx hy hc hl
      by_cases hxy : x < y
      · have hb2 := bl_false (str_asymm hxy)
        have hb3 := beq_str (fun e : y = x => str_irrefl x (e ▸ hxy))
        have HN := Lib.hid hxy
        clear hxy
        go_wp2
        go_quiet (fail)
        go_wp2
        go_roundw
        case rel => exact ⟨k + 1, _, by omega, by go_num, rfl, srt_snoc h0.out HX.out HY.out HN.out⟩
        case measure => simp [intOf]; omega
      · have hb2 : (Op.bytesLess y x || y == x) = true := by
          rcases str_tri x y with h | h | h
          · exact absurd h hxy
          · subst h; simp
          · rw [bl_true h]; rfl
        have HN := Lib.hid hxy
        clear hxy
        go_wp2
        go_quiet (fail)
        go_wp2
        go_ret
        exact ⟨ret_bool (decide_eq_false (srt_no HX.out HY.out HN.out)).symm, drew2 _ _ _⟩
    · go_wp2
      go_ret
      exact ⟨ret_bool (decide_eq_true (srt_all h0.out (by omega))).symm, _, rfl⟩

set_option maxHeartbeats 400000 in
theorem is_any (A : Option Addr) (c : Nat) (xs : List Str) (w : World) (hl : Lies w A xs) (hn : xs.length ≤ maxLen) :
    Calls Tryz.prog 105 #[.slice A xs.length c] w fun e w' => e = .returned (.bool (decide (Srt xs))) ∧ ∃ n, w' = w.drewN n := by
  go_enter Tryz.func105, Tryz.ntmps105
  go_wp2_with fail
  refine (rises_any A c xs w hl hn).mono ?_
  rintro e w' ⟨rfl, n, rfl⟩
  go_wp2
  go_ret
  exact ⟨rfl, n, rfl⟩
end Go.Proofs.YtdbohojncbeajaaGreat.R1

namespace Go.Proofs.YtdbohojncbeajaaGreat.V4
open Go.RowKit
open C3 (Tk Asc isC ofC cmpC Nok In belAl allocB drewB RetT)
open S2 (Tr Sc isT)

def baseV (k : Int) (x : Va) : Bool := fitsV k x && (decide (R1.Srt x.s) && decide (x.s.length ≤ 40))
def mapV (p : Va → Bool) (bot : Va) (vs : List Va) : Bool := vs.all fun y => p y && !decide (y = bot)
def clockV (cs : List (List Tk)) : Bool := match cs with
  | [] => true
  | c :: _ => isC c && decide (0 < c.length)
def pairV (p q : Va → Bool) (vs : List Va) : Bool := match vs with
  | y :: z :: _ => p y && q z
  | _ => false

/-- A value by a schema. -/
def isV : Tr → Va → Bool
  | .mk k [], x => baseV k x && (if k = 7 then clockV x.c else true)
  | .mk k [a], x => baseV k x && (if k = 4 then mapV (isV a) (botT a) x.v else sibsV (isV a) x)
  | .mk k [a, b], x => baseV k x && pairV (isV a) (isV b) x.v
  | .mk _ (_ :: _ :: _ :: _), _ => false

/-- The cells of the two boxes. -/
structure Boxes (w : World) (k : Int) (A : Option Addr) (ln c : Nat) (n m : Int) (sA : Option Addr) (sn sc : Nat) (cA : Option Addr) (cn cc : Nat) (vA : Option Addr) (vn vc : Nat) (W : World) : Prop where
  i0 : W.cell? ⟨w.heap.size, 0, none⟩ = some (.int .i64 k)
  i1 : W.cell? ⟨w.heap.size, 1, none⟩ = some (.slice A ln c)
  c0 : W.cell? ⟨w.heap.size + 1, 0, none⟩ = some (.int .u64 n)
  c1 : W.cell? ⟨w.heap.size + 1, 1, none⟩ = some (.int .u64 m)
  c2 : W.cell? ⟨w.heap.size + 1, 2, none⟩ = some (.slice sA sn sc)
  c3 : W.cell? ⟨w.heap.size + 1, 3, none⟩ = some (.slice cA cn cc)
  c4 : W.cell? ⟨w.heap.size + 1, 4, none⟩ = some (.slice vA vn vc)
  sz : w.heap.size + 1 < W.heap.size
  bel : Below w.heap.size w W

theorem Boxes.later {w : World} {k : Int} {A : Option Addr} {ln c : Nat} {n m : Int} {sA : Option Addr} {sn sc : Nat} {cA : Option Addr} {cn cc : Nat} {vA : Option Addr} {vn vc : Nat} {W W' : World} (h : Boxes w k A ln c n m sA sn sc cA cn cc vA vn vc W) (hb : Below W.heap.size W W') :
    Boxes w k A ln c n m sA sn sc cA cn cc vA vn vc W' := by
  have h0 : w.heap.size < W.heap.size := by have := h.sz; omega
  exact ⟨(hb.cell (p := ⟨w.heap.size, 0, none⟩) h0).trans h.i0, (hb.cell (p := ⟨w.heap.size, 1, none⟩) h0).trans h.i1, (hb.cell (p := ⟨w.heap.size + 1, 0, none⟩) h.sz).trans h.c0, (hb.cell (p := ⟨w.heap.size + 1, 1, none⟩) h.sz).trans h.c1, (hb.cell (p := ⟨w.heap.size + 1, 2, none⟩) h.sz).trans h.c2,
    (hb.cell (p := ⟨w.heap.size + 1, 3, none⟩) h.sz).trans h.c3, (hb.cell (p := ⟨w.heap.size + 1, 4, none⟩) h.sz).trans h.c4, Nat.lt_of_lt_of_le h.sz hb.size, h.bel.trans (hb.mono h.bel.size)⟩

/-- A schema and a value in their rows. -/
structure Row2 (b off : Nat) (a : Sc) (b2 o2 : Nat) (y : Vl) (W : World) : Prop where
  s0 : W.cell? ⟨b, off, none⟩ = some (.int .i64 a.k)
  s1 : W.cell? ⟨b, off + 1, none⟩ = some a.v1
  y0 : W.cell? ⟨b2, o2, none⟩ = some (.int .u64 y.n)
  y1 : W.cell? ⟨b2, o2 + 1, none⟩ = some (.int .u64 y.m)
  y2 : W.cell? ⟨b2, o2 + 2, none⟩ = some y.s1
  y3 : W.cell? ⟨b2, o2 + 3, none⟩ = some y.c1
  y4 : W.cell? ⟨b2, o2 + 4, none⟩ = some y.v1
  l1 : b < W.heap.size
  l2 : b2 < W.heap.size
  ia : a.In W.heap.size W
  iy : y.In W
theorem Row2.later {b off : Nat} {a : Sc} {b2 o2 : Nat} {y : Vl} {W W' : World} (h : Row2 b off a b2 o2 y W) (hb : Below W.heap.size W W') : Row2 b off a b2 o2 y W' :=
  ⟨(hb.cell (p := ⟨b, off, none⟩) h.l1).trans h.s0, (hb.cell (p := ⟨b, off + 1, none⟩) h.l1).trans h.s1, (hb.cell (p := ⟨b2, o2, none⟩) h.l2).trans h.y0, (hb.cell (p := ⟨b2, o2 + 1, none⟩) h.l2).trans h.y1, (hb.cell (p := ⟨b2, o2 + 2, none⟩) h.l2).trans h.y2, (hb.cell (p := ⟨b2, o2 + 3, none⟩) h.l2).trans h.y3, (hb.cell (p := ⟨b2, o2 + 4, none⟩) h.l2).trans h.y4,
    Nat.lt_of_lt_of_le h.l1 hb.size, Nat.lt_of_lt_of_le h.l2 hb.size, h.ia.later hb, h.iy.later hb⟩

end Go.Proofs.YtdbohojncbeajaaGreat.V4

namespace Go.Proofs.YtdbohojncbeajaaGreat.R1
open Go.RowKit

/-- The cells that hold the strings. -/
def cellsOf (ys : List Str) : List Value := ys.map fun x => Value.string (S x)

theorem cellsOf_get {ys : List Str} {j : Nat} {u : Value} (h : (cellsOf ys)[j]? = some u) : ∃ x, ys[j]? = some x ∧ u = .string (S x) := by
  unfold cellsOf at h
  rw [List.getElem?_map] at h
  cases hx : ys[j]? with
  | none => rw [hx] at h; cases h
  | some x => rw [hx] at h; exact ⟨x, rfl, by simpa using h.symm⟩

theorem cellsOf_at {ys : List Str} {j : Nat} {x : Str} (h : ys[j]? = some x) : (cellsOf ys)[j]? = some (.string (S x)) := by
  unfold cellsOf; rw [List.getElem?_map, h]; rfl

theorem cellsOf_one {ys : List Str} : ∀ u ∈ cellsOf ys, u.oneCell' = true := by
  intro u hu
  obtain ⟨x, _, rfl⟩ := List.mem_map.1 hu
  rfl

theorem cellsOf_len (ys : List Str) : (cellsOf ys).length = ys.length := by simp [cellsOf]
theorem cellsOf_append (xs ys : List Str) : cellsOf (xs ++ ys) = cellsOf xs ++ cellsOf ys := by simp [cellsOf]

/-- The value v is a slice of the call's own (from block 'base' on), or nil, and holds the strings ys. -/
def Own (w : World) (base : Nat) (v : Value) (ys : List Str) : Prop := w.ownsRow base 9 1 v ys.length (cellsOf ys)

theorem Own.nil (w : World) (base : Nat) : Own w base (.slice none 0 0) [] := World.ownsRow_nil w base _ _

theorem Own.form {w : World} {base : Nat} {v : Value} {ys : List Str} (h : Own w base v ys) :
    ∃ A c, v = .slice A ys.length c ∧ ys.length ≤ c ∧ c ≤ maxLen ∧ Lies w A ys := by
  rcases h.2 with ⟨rfl, h0⟩ | ⟨g, cap, cur, rfl, hb, hg, hnc, hcm, hcs, ht⟩
  · have : ys = [] := List.eq_nil_of_length_eq_zero h0
    subst this
    exact ⟨none, 0, rfl, Nat.le_refl _, Nat.zero_le _, .inl rfl⟩
  · refine ⟨_, cap, rfl, hnc, hcm, .inr ⟨g, 0, rfl, ?_, fun i x hx => ?_⟩⟩
    · rcases Nat.lt_or_ge g w.heap.size with hlt | hge
      · exact hlt
      · rw [Array.getElem?_eq_none hge] at hg; cases hg
    · have := World.ownsRow.cells h (g := g) rfl i _ (cellsOf_at hx)
      rwa [Addr.add_lit] at this

theorem Own.lt {w : World} {base : Nat} {v : Value} {ys : List Str} (h : Own w base v ys) {k : Nat} (hk : v.ownBlock = some k) : base ≤ k ∧ k < w.heap.size := World.ownsRow.lt h k hk

theorem Own.alloc {w : World} {base : Nat} {v : Value} {ys : List Str} (h : Own w base v ys) (o : Obj) : Own (w.alloc o) base v ys := World.ownsRow.alloc h o
theorem Own.drewN {w : World} {base : Nat} {v : Value} {ys : List Str} (h : Own w base v ys) (n : Nat) : Own (w.drewN n) base v ys := h
theorem Own.kept {w w' : World} {base : Nat} {v : Value} {ys : List Str} {row : Option Nat} (h : Own w base v ys) (hg : w.grownBy w' row) (hne : v.ownBlock = none ∨ v.ownBlock ≠ row) : Own w' base v ys := World.ownsRow.kept h hg hne

theorem Own.below {w w' : World} {base : Nat} {v : Value} {ys : List Str} (h : Own w base v ys) (hb : Below w.heap.size w w') : Own w' base v ys :=
  h.kept (row := none) ⟨hb.os, hb.tape, hb.output, hb.size, fun k hk _ => hb.block k hk⟩ (by
    cases hv : v.ownBlock with
    | none => exact .inl rfl
    | some k => exact .inr (by simp))

theorem Lies.grown {w w' : World} {A : Option Addr} {xs : List Str} {row : Option Nat} (h : Lies w A xs) (hg : w.grownBy w' row) (hne : ∀ a, A = some a → some a.block ≠ row) : Lies w' A xs := by
  rcases h with h | ⟨b, off, rfl, hb, h⟩
  · exact .inl h
  · exact .inr ⟨b, off, rfl, Nat.lt_of_lt_of_le hb hg.size, fun i x hx => hg.cell (h i x hx) (hne ⟨b, off, none⟩ rfl)⟩

theorem own_snoc {w : World} {base : Nat} {v : Value} {ys : List Str} {x : Str} (h : w.ownsRow base 9 1 v (ys.length + 1) (cellsOf ys ++ [.string (S x)])) : Own w base v (ys ++ [x]) := by
  unfold Own
  rw [cellsOf_append, List.length_append]
  exact h

theorem Tryz.infoStr : (Tryz.prog.info? 9).map (fun i => (i.zero, i.size, i.bytes)) = some (some (.string { data := #[] }), 1, 16) := by kernel_rfl

section
variable (w : World)

theorem run_app_nil (base : Nat) (t ty : TypeId) (ht : Tryz.prog.underlying t = some (.slice 9)) (v : Value) (ys : List Str) (hown : Own w base v ys) (c : Nat) :
    (Builtin.append_ #[t, t] ty #[v, .slice none 0 c]).run Tryz.prog w = .ok v w := by
  obtain ⟨i0, hi, hz0, hz1, hz2⟩ := info_parts Tryz.infoStr
  rcases hown.2 with ⟨rfl, _⟩ | ⟨g, cap, cur, rfl, _, _, hnc, _⟩
  · simp [Builtin.append_, run_underlying ht, sizeOf, typeInfo, hi, Builtin.lenOf, Builtin.firstCells]
  · simp [Builtin.append_, run_underlying ht, sizeOf, typeInfo, hi, Builtin.lenOf, Builtin.firstCells, hnc, storeCells]

/-- append onto a row of the call's own, of whatever strings. -/
theorem run_app (base : Nat) (t ty : TypeId) (ht : Tryz.prog.underlying t = some (.slice 9)) (v : Value) (ys : List Str) (hown : Own w base v ys)
    (A : Option Addr) (c : Nat) (news : List Str) (hl : Lies w A news) (hlen : ys.length + news.length ≤ 1000000) (hbase : base ≤ w.heap.size) :
    ∃ v' w', (Builtin.append_ #[t, t] ty #[v, .slice A news.length c]).run Tryz.prog w = .ok v' w' ∧ Own w' base v' (ys ++ news) ∧ w.grownBy w' v.ownBlock ∧
      (v'.ownBlock = v.ownBlock ∨ v'.ownBlock = some w.heap.size) := by
  obtain ⟨i0, hi, hz0, hz1, hz2⟩ := info_parts Tryz.infoStr
  cases A with
  | none =>
    have hn : news = [] := by
      rcases hl with h | ⟨b, off, h, _⟩
      · exact h
      · cases h
    subst hn
    exact ⟨v, w, run_app_nil w base t ty ht v ys hown c, by simpa using hown, World.grownBy.refl w _, .inl rfl⟩
  | some a =>
    have hcells : ∀ j u, (cellsOf news)[j]? = some u → w.cell? (a.add j) = some u := by
      intro j u hu
      obtain ⟨x, hx, rfl⟩ := cellsOf_get hu
      rcases hl with h | ⟨b, off, h, _, hc⟩
      · subst h; simp at hx
      · cases h
        rw [Addr.add_lit]
        exact hc j x hx
    obtain ⟨v', w', hr, h2, h3, _, h5⟩ := run_append_own_at (P := Tryz.prog) w base t ty 9 i0 _ 1 16 ht hi hz0 hz1 hz2 rfl (by omega) v ys.length (cellsOf ys) hown a news.length c (cellsOf news)
      (by rw [cellsOf_len]; omega) hcells cellsOf_one (by unfold maxLen; omega) (by omega) hbase
    refine ⟨v', w', hr, ?_, h3, h5⟩
    unfold Own
    rw [cellsOf_append, List.length_append]
    exact h2

variable {o : Oper} {a : Act} {K : Act → World → Prop} {Q : Exit → Act → World → Prop}

theorem wp_app (s x : Operand) (t : TypeId) (ho : o.op = .call { callee := .builtin .append, args := #[s, x], argTypes := #[t, t] })
    (base : Nat) (ht : Tryz.prog.underlying t = some (.slice 9)) (v : Value) (ys : List Str) (hs : a.eval s = v) (hown : Own w base v ys)
    (A : Option Addr) (m c : Nat) (news : List Str) (hm : news.length = m) (hx : a.eval x = .slice A m c) (hl : Lies w A news) (hlen : ys.length + news.length ≤ 1000000) (hbase : base ≤ w.heap.size)
    (h : ∀ v' w', Own w' base v' (ys ++ news) → w.grownBy w' v.ownBlock → (v'.ownBlock = v.ownBlock ∨ v'.ownBlock = some w.heap.size) → K (a.put o.dst v') w') : o.wp Tryz.prog a w K Q := by
  subst hm
  obtain ⟨v', w', hr, h2, h3, h4⟩ := run_app w base t o.type ht v ys hown A c news hl hlen hbase
  unfold Oper.wp execOp
  simp only [ho, resolve, invoke, builtin, Sem.run_bind, Sem.run_pure, Result.andThen_ok, List.map_toArray, List.map_cons, List.map_nil, hs, hx, hr]
  exact h v' w' h2 h3 h4

theorem wpList_app {ops : Array Oper} {rest : List Oper} (hgd : o.guard = none) (s x : Operand) (t : TypeId) (ho : o.op = .call { callee := .builtin .append, args := #[s, x], argTypes := #[t, t] })
    (base : Nat) (ht : Tryz.prog.underlying t = some (.slice 9)) (v : Value) (ys : List Str) (hs : a.eval s = v) (hown : Own w base v ys)
    (A : Option Addr) (m c : Nat) (news : List Str) (hm : news.length = m) (hx : a.eval x = .slice A m c) (hl : Lies w A news) (hlen : ys.length + news.length ≤ 1000000) (hbase : base ≤ w.heap.size)
    (h : ∀ v' w', Own w' base v' (ys ++ news) → w.grownBy w' v.ownBlock → (v'.ownBlock = v.ownBlock ∨ v'.ownBlock = some w.heap.size) → wpList Tryz.prog ops Q rest (a.put o.dst v') w') : wpList Tryz.prog ops Q (o :: rest) a w :=
  wpList_plain hgd fun _ hK => wp_app w s x t ho base ht v ys hs hown A m c news hm hx hl hlen hbase fun v' w' h2 h3 h4 => hK _ _ (h v' w' h2 h3 h4)

theorem step_app {ops : Array Oper} {E : Prop} (hgd : o.guard = none) (s x : Operand) (t : TypeId) (ho : o.op = .call { callee := .builtin .append, args := #[s, x], argTypes := #[t, t] })
    (base : Nat) (ht : Tryz.prog.underlying t = some (.slice 9)) (v : Value) (ys : List Str) (hs : a.eval s = v) (hown : Own w base v ys)
    (A : Option Addr) (m c : Nat) (news : List Str) (hm : news.length = m) (hx : a.eval x = .slice A m c) (hl : Lies w A news) (hlen : ys.length + news.length ≤ 1000000) (hbase : base ≤ w.heap.size)
    (h : ∀ v' w', Own w' base v' (ys ++ news) → w.grownBy w' v.ownBlock → (v'.ownBlock = v.ownBlock ∨ v'.ownBlock = some w.heap.size) → K (a.put o.dst v') w') :
    if Region.wanted o (yielded ops a.tmps) = true then Oper.wp Tryz.prog o a w K Q else E := by
  have hw : Region.wanted o (yielded ops a.tmps) = true := by simp [Region.wanted, hgd]
  rw [if_pos hw]
  exact wp_app w s x t ho base ht v ys hs hown A m c news hm hx hl hlen hbase h
end
end Go.Proofs.YtdbohojncbeajaaGreat.R1

namespace Go.Proofs.YtdbohojncbeajaaGreat.R1
open Go.RowKit

/-- s put into a row, where it is not there yet. -/
def putL (s : Str) : List Str → List Str
  | [] => [s]
  | x :: r => if x = s then x :: r else if s < x then s :: x :: r else x :: putL s r

theorem Lies.take {w : World} {b off : Nat} {xs : List Str} (hb : b < w.heap.size) (h : ∀ i x, xs[i]? = some x → w.cell? ⟨b, off + i, none⟩ = some (.string (S x))) (k : Nat) : Lies w (some ⟨b, off, none⟩) (xs.take k) :=
  .inr ⟨b, off, rfl, hb, fun i x hx => h i x (by
    rw [List.getElem?_take] at hx
    split at hx
    · exact hx
    · cases hx)⟩

theorem Lies.drop {w : World} {b off : Nat} {xs : List Str} (hb : b < w.heap.size) (h : ∀ i x, xs[i]? = some x → w.cell? ⟨b, off + i, none⟩ = some (.string (S x))) (k : Nat) : Lies w (some ⟨b, off + k, none⟩) (xs.drop k) :=
  .inr ⟨b, off + k, rfl, hb, fun i x hx => by
    rw [Nat.add_assoc]
    exact h _ x (by rwa [List.getElem?_drop] at hx)⟩

theorem Lies.new (w : World) (s : Str) (t : TypeId) : Lies (w.alloc (.cells #[.string (S s)] t)) (some ⟨w.heap.size, 0, none⟩) [s] :=
  .inr ⟨_, _, rfl, by simp, fun i x hx => by
    match i, hx with
    | 0, hx =>
      simp at hx
      subst hx
      simp⟩

end Go.Proofs.YtdbohojncbeajaaGreat.R1

namespace Go.Proofs.YtdbohojncbeajaaGreat.R1
open Go.RowKit

/-- The strings of b put, one by one, into a. -/
def bothL (a b : List Str) : List Str := b.foldl (fun acc x => putL x acc) a
theorem putL_len (s : Str) : ∀ xs : List Str, (putL s xs).length ≤ xs.length + 1
  | [] => by simp [putL]
  | x :: r => by
    have := putL_len s r
    unfold putL
    split
    · simp
    · split
      · simp
      · simp; omega

theorem bothL_len (a : List Str) : ∀ b : List Str, (bothL a b).length ≤ a.length + b.length := by
  intro b
  induction b generalizing a with
  | nil => simp [bothL]
  | cons x r ih =>
    have h1 := ih (putL x a)
    have h2 := putL_len x a
    unfold bothL at h1 ⊢
    simp only [List.foldl_cons, List.length_cons]
    omega

end Go.Proofs.YtdbohojncbeajaaGreat.R1

namespace Go.Proofs.YtdbohojncbeajaaGreat.R1
open Go.RowKit

end Go.Proofs.YtdbohojncbeajaaGreat.R1

namespace Go.Proofs.YtdbohojncbeajaaGreat.R1

theorem srt_ext : ∀ {xs ys : List Str}, Srt xs → Srt ys → (∀ x, x ∈ xs ↔ x ∈ ys) → xs = ys
  | [], [], _, _, _ => rfl
  | [], y :: ys, _, _, h => absurd ((h y).2 (by simp)) (by simp)
  | x :: xs, [], _, _, h => absurd ((h x).1 (by simp)) (by simp)
  | x :: xs, y :: ys, hx, hy, h => by
    obtain ⟨hx1, hx2⟩ := List.pairwise_cons.1 hx
    obtain ⟨hy1, hy2⟩ := List.pairwise_cons.1 hy
    have e : x = y := by
      rcases List.mem_cons.1 ((h x).1 (by simp)) with h1 | h1
      · exact h1
      · rcases List.mem_cons.1 ((h y).2 (by simp)) with h2 | h2
        · exact h2.symm
        · exact absurd (str_trans (hx1 y h2) (hy1 x h1)) (str_irrefl x)
    subst e
    refine congrArg _ (srt_ext hx2 hy2 fun z => ⟨fun hz => ?_, fun hz => ?_⟩)
    · rcases List.mem_cons.1 ((h z).1 (by simp [hz])) with h1 | h1
      · subst h1; exact absurd (hx1 z hz) (str_irrefl z)
      · exact h1
    · rcases List.mem_cons.1 ((h z).2 (by simp [hz])) with h1 | h1
      · subst h1; exact absurd (hy1 z hz) (str_irrefl z)
      · exact h1

theorem mem_putL {s x : Str} : ∀ {xs : List Str}, x ∈ putL s xs ↔ x = s ∨ x ∈ xs
  | [] => by simp [putL]
  | y :: r => by
    unfold putL
    split
    · rename_i h; subst h; simp
    · split
      · simp
      · rw [List.mem_cons, mem_putL (xs := r), List.mem_cons]
        constructor
        · rintro (h | h | h)
          · exact .inr (.inl h)
          · exact .inl h
          · exact .inr (.inr h)
        · rintro (h | h | h)
          · exact .inr (.inl h)
          · exact .inl h
          · exact .inr (.inr h)

theorem srt_putL {s : Str} : ∀ {xs : List Str}, Srt xs → Srt (putL s xs)
  | [], _ => by simp [putL]
  | y :: r, h => by
    obtain ⟨h1, h2⟩ := List.pairwise_cons.1 h
    unfold putL
    split
    · exact h
    · rename_i hne
      split
      · rename_i hlt
        refine List.pairwise_cons.2 ⟨fun z hz => ?_, h⟩
        rcases List.mem_cons.1 hz with e | e
        · rw [e]; exact hlt
        · exact str_trans hlt (h1 z e)
      · rename_i hge
        refine List.pairwise_cons.2 ⟨fun z hz => ?_, srt_putL h2⟩
        rcases mem_putL.1 hz with e | e
        · rw [e]
          rcases str_tri y s with k | k | k
          · exact k
          · exact absurd k hne
          · exact absurd k hge
        · exact h1 z e

theorem mem_bothL {x : Str} : ∀ {b a : List Str}, x ∈ bothL a b ↔ x ∈ a ∨ x ∈ b
  | [], a => by simp [bothL]
  | y :: r, a => by
    have := mem_bothL (x := x) (b := r) (a := putL y a)
    unfold bothL at this ⊢
    rw [List.foldl_cons, this, mem_putL, List.mem_cons]
    constructor
    · rintro ((h | h) | h)
      · exact .inr (.inl h)
      · exact .inl h
      · exact .inr (.inr h)
    · rintro (h | h | h)
      · exact .inl (.inr h)
      · exact .inl (.inl h)
      · exact .inr h

theorem srt_bothL : ∀ {b a : List Str}, Srt a → Srt (bothL a b)
  | [], _, h => by simpa [bothL] using h
  | y :: r, a, h => by
    have := srt_bothL (b := r) (srt_putL (s := y) h)
    unfold bothL at this ⊢
    rwa [List.foldl_cons]

end Go.Proofs.YtdbohojncbeajaaGreat.R1
