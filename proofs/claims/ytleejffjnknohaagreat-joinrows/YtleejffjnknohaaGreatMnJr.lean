/- JoinRowsSaid is proved: at every input the law returns true, and each argument reads afterwards as it read before. No condition. A value that came in, opened. No condition. Rows of whatever that came in, opened; schemas and values among them. No condition. A schema that came in, opened. No condition. What JoinRows does: it answers true. No condition but that what is handed in lies in memory. What join.joinPairs does. No condition but that what it takes lies in memory. What errors.Is does with errors that are numbers. No condition. Rows of values joined: the same in whatever order, however often. Plain mathematics. No condition but that no number is below 0. Values joined: the least that is not less than either. Plain mathematics. No condition but that the schema is one, and that the values are of it. Values of a schema as an order: less, or the same. Plain mathematics. No condition but that the schema is one. Clocks and last writers as orders. Plain mathematics. No condition. Two lines of marks gone through together: what stands in it; what comes of it. Plain mathematics. No condition. What join answers, in words; what join.half and join.fitting do. No condition but that what they take lies in memory. Rows of schemas that a call owns, and append onto them; what schema.fresh does. No condition but that the schema lies in memory. Values joined: plain mathematics. No condition. Words for slices of strings in memory, and small facts on them. No condition. -/
import Derived.Test.YtleejffjnknohaaGreatMn01
import Derived.Test.YtleejffjnknohaaGreatMn02
import Derived.Test.YtleejffjnknohaaGreatMn03
import Derived.Test.YtleejffjnknohaaGreatMn04
import Derived.Test.YtleejffjnknohaaGreatMn05
import Derived.Test.YtleejffjnknohaaGreatMn06
import Derived.Test.YtleejffjnknohaaGreatMn07
import Derived.Test.YtleejffjnknohaaGreatMn08
import Derived.Test.YtleejffjnknohaaGreatMn09
import Derived.Test.YtleejffjnknohaaGreatMn10
import Derived.Test.YtleejffjnknohaaGreatMn11
import Derived.Test.YtleejffjnknohaaGreatMn12
import Derived.Test.YtleejffjnknohaaGreatMn13
import Derived.Test.YtleejffjnknohaaGreatMn14
import Derived.Test.YtleejffjnknohaaGreatMn15
import Derived.Test.YtleejffjnknohaaGreatMn16
import Derived.Test.YtleejffjnknohaaGreatMn17
import Derived.Test.YtleejffjnknohaaGreatMn18
import Derived.Test.YtleejffjnknohaaGreatMn19
import Derived.Test.YtleejffjnknohaaGreatMn20
import Derived.Test.YtleejffjnknohaaGreatMn21
import Derived.Test.YtleejffjnknohaaGreatMn22
import Derived.Test.YtleejffjnknohaaGreatMn23
import Derived.Test.YtleejffjnknohaaGreatMn24
import Derived.WalkKit
import Derived.WalkSpells
import Derived.WalkLawsBesides
import Derived.Deep.QuietTactic
import Derived.BigQuiet
import Derived.Deep.Draws
import Derived.Deep.AppendLies
import Derived.Maps.AppendAt
import Derived.Lib.Hide
import Derived.Lib.Strings
import Derived.Sort.Walk0
import Derived.IntWalk
import Derived.Deep.RegionLaw
import Derived.Stop.Asserts
import Derived.LaidEql
import Derived.Deep.DeepCutAuto
import Derived.Deep.SlicePairs
import Derived.ProofKit
import Derived.SizedLaws
import Derived.OpenShut
import Derived.ChangeOld
import Derived.Deep.Slices
namespace Go.Proofs.YtleejffjnknohaaGreat
open Go.RowKit

theorem S_of (s : ByteArray) : ∃ x, s = S x := ⟨s.data.toList, by cases s; simp [S]⟩
end Go.Proofs.YtleejffjnknohaaGreat

namespace Go.Proofs.YtleejffjnknohaaGreat.J5
open C3 (Tk mergeC cmpC cmpI)
open S2 (Tr)
open V4 (Va aheadC)
open R1 (bothL)

section
variable {M V : Type} (c : M → M → Int) (z : V)
end

theorem allE_len {M V W : Type} {f : V → V → Option W} : ∀ {l : List (M × V × V)} {r : List (M × W)}, allE f l = some r → r.length = l.length
  | [], r, h => by simp [allE] at h; subst h; rfl
  | q :: l, r, h => by
    rw [allE] at h
    cases hf : f q.2.1 q.2.2 with
    | none => rw [hf] at h; simp at h
    | some v =>
      rw [hf] at h
      cases ha : allE f l with
      | none => rw [ha] at h; simp at h
      | some x => rw [ha] at h; simp at h; subst h; simp [allE_len ha]
end Go.Proofs.YtleejffjnknohaaGreat.J5

namespace Go.Proofs.YtleejffjnknohaaGreat.S2
open Go.RowKit

section
variable (w : World) {o : Oper} {a : Act} {K : Act → World → Prop} {Q : Exit → Act → World → Prop}

theorem wpList_appAt {ops : Array Oper} {rest : List Oper} (hgd : o.guard = none) (s x : Operand) (t : TypeId) (ho : o.op = .call { callee := .builtin .append, args := #[s, x], argTypes := #[t, t] })
    (base : Nat) (e : TypeId) (i : TypeInfo) (z : Value) (size bytes : Nat) (ht : Tryz.prog.underlying t = some (.slice e)) (hi : Tryz.prog.info? e = some i) (hz : i.zero = some z) (hsize : i.size = size) (hby : i.bytes = bytes) (hzs : z.cells.size = size) (hsz : 0 < size)
    (v : Value) (n : Nat) (xs : List Value) (hs : a.eval s = v) (hown : w.ownsRow base e size v n xs)
    (ad : Addr) (m c : Nat) (news : List Value) (hx : a.eval x = .slice (some ad) m c) (hl : news.length = m * size) (hnews : ∀ j u, news[j]? = some u → w.cell? (ad.add j) = some u) (h1 : ∀ u ∈ news, u.oneCell' = true)
    (h63 : n + m ≤ maxLen) (hbytes : (n + m) * bytes ≤ 140737488355328) (hbase : base ≤ w.heap.size)
    (h : ∀ v' w', w'.ownsRow base e size v' (n + m) (xs ++ news) → w.grownBy w' v.ownBlock → (v'.ownBlock = v.ownBlock ∨ v'.ownBlock = some w.heap.size) → wpList Tryz.prog ops Q rest (a.put o.dst v') w') : wpList Tryz.prog ops Q (o :: rest) a w :=
  wpList_plain hgd fun _ hK => wp_appAt w s x t ho base e i z size bytes ht hi hz hsize hby hzs hsz v n xs hs hown ad m c news hx hl hnews h1 h63 hbytes hbase fun v' w' h2 h3 h4 => hK _ _ (h v' w' h2 h3 h4)
end

end Go.Proofs.YtleejffjnknohaaGreat.S2

namespace Go.Proofs.YtleejffjnknohaaGreat.J5
open Go.RowKit Go.Shelf
open C3 (Tk In belAl allocB)
open V4 (Va Vl Ck LiesC cellsV val_mk er_mk inp_zero)

set_option maxHeartbeats 1000000 in
theorem half_any (x : Vl) (i : Nat) (w : World) (hx : x.In w) (h : x.vs = [] ∨ i < x.vs.length) :
    Calls Tryz.prog 66 #[x.val, .int .i64 i] w fun e w' => e = .returned (halfV x i).val ∧ (halfV x i).In w' ∧ Below w.heap.size w w' := by
  obtain ⟨n, m, sA, sc, ss, cA, cc, cs, vA, vc, vs⟩ := x
  simp only [V4.Vl.vs] at h
  have hp := hx.out
  have hb : Below w.heap.size w ((w.alloc (.cells #[.int .u64 n, .int .u64 m, .slice sA ss.length sc, .slice cA cs.length cc, .slice vA vs.length vc] 32)).alloc (.cells #[.int .u64 0, .int .u64 0, .slice none 0 0, .slice none 0 0, .slice none 0 0] 32)) := belAl (belAl (Below.refl _ _))
  have HB : Hid (∀ v0 v1 v2 v3 v4, Below w.heap.size w ((((((((w.alloc (.cells #[.int .u64 n, .int .u64 m, .slice sA ss.length sc, .slice cA cs.length cc, .slice vA vs.length vc] 32)).alloc (.cells #[.int .u64 0, .int .u64 0, .slice none 0 0, .slice none 0 0, .slice none 0 0] 32)).setCell ⟨w.heap.size + 1, 0, none⟩ v0).setCell ⟨w.heap.size + 1, 1, none⟩ v1).setCell ⟨w.heap.size + 1, 2, none⟩ v2).setCell ⟨w.heap.size + 1, 3, none⟩ v3).setCell ⟨w.heap.size + 1, 4, none⟩ v4))) := fun v0 v1 v2 v3 v4 =>
    ((((hb.setCell (by simp) _).setCell (by simp) _).setCell (by simp) _).setCell (by simp) _).setCell (by simp) _
  by_cases h0 : vs = []
  · subst h0
    have HH : Hid (halfV (Vl.mk n m sA sc ss cA cc cs vA vc []) i = vlZ) := rfl
    rw [HH.out, vlZ_val]
    clear hx hp h hb
    simp only [val_mk, List.length_nil] at HB ⊢
    go_enter Tryz.func66, Tryz.ntmps66
    go_wp2_with fail
    refine bodyPost_ret (V4.results_cellV rfl _ _ (w.heap.size + 1) (.int .u64 0) (.int .u64 0) (.slice none 0 0) (.slice none 0 0) (.slice none 0 0) rfl (by go_simp) (by go_simp) (by go_simp) (by go_simp) (by go_simp)) rfl ?_
    exact ⟨rfl, inp_zero _ _, belAl (belAl (Below.refl _ _))⟩
  · have hi : i < vs.length := h.resolve_left h0
    obtain ⟨y, hy⟩ : ∃ y, vs[i]? = some y := ⟨_, List.getElem?_eq_getElem hi⟩
    have HH : Hid (halfV (Vl.mk n m sA sc ss cA cc cs vA vc vs) i = y) := by show halfV _ _ = _; unfold halfV; simp only [V4.Vl.vs, hy, Option.getD_some]
    rw [HH.out]
    obtain ⟨b, off, rfl, hbb, c0, c1, c2, c3, c4⟩ := V4.value_at hp.vl hy
    have HY := Lib.hid (hp.vk y (List.mem_of_getElem? hy))
    have hvl : vs.length ≤ 9223372036854775807 := by have := hp.vb; unfold maxLen at this; omega
    have hne : ((vs.length : Int) == 0) = false := beq_eq_false_iff_ne.2 (by omega)
    obtain ⟨yn, ym, ysA, ysc, yss, ycA, ycc, ycs, yvA, yvc, yvs⟩ := y
    simp only [V4.Vl.n, V4.Vl.m, V4.Vl.s1, V4.Vl.c1, V4.Vl.v1] at c0 c1 c2 c3 c4
    obtain ⟨V, hV⟩ : ∃ V, (w.alloc (.cells #[.int .u64 n, .int .u64 m, .slice sA ss.length sc, .slice cA cs.length cc, .slice (some ⟨b, off, none⟩) vs.length vc] 32)).alloc (.cells #[.int .u64 0, .int .u64 0, .slice none 0 0, .slice none 0 0, .slice none 0 0] 32) = V := ⟨_, rfl⟩
    rw [hV] at hb HB
    replace c0 := (hb.cell (p := ⟨b, off + i * 5, none⟩) hbb).trans c0
    replace c1 := (hb.cell (p := ⟨b, off + i * 5 + 1, none⟩) hbb).trans c1
    replace c2 := (hb.cell (p := ⟨b, off + i * 5 + 2, none⟩) hbb).trans c2
    replace c3 := (hb.cell (p := ⟨b, off + i * 5 + 3, none⟩) hbb).trans c3
    replace c4 := (hb.cell (p := ⟨b, off + i * 5 + 4, none⟩) hbb).trans c4
    have k4 : V.cell? ⟨w.heap.size, 4, none⟩ = some (.slice (some ⟨b, off, none⟩) vs.length vc) := by
      rw [← hV]
      exact ((allocB _ _).cell (p := ⟨w.heap.size, 4, none⟩) (by simp)).trans (V4.alloc_cells 4 _ rfl)
    have hv1 : Blk V (w.heap.size + 1) 32 #[.int .u64 0, .int .u64 0, .slice none 0 0, .slice none 0 0, .slice none 0 0] := by
      rw [← hV]
      have := Blk.new (w.alloc (.cells #[.int .u64 n, .int .u64 m, .slice sA ss.length sc, .slice cA cs.length cc, .slice (some ⟨b, off, none⟩) vs.length vc] 32)) 32 #[.int .u64 0, .int .u64 0, .slice none 0 0, .slice none 0 0, .slice none 0 0]
      rw [World.size_alloc] at this
      exact this
    have b0 : V.cell? ⟨w.heap.size + 1, 0, none⟩ = some (.int .u64 0) := blk_cell hv1 0 _ rfl
    have b1 : V.cell? ⟨w.heap.size + 1, 1, none⟩ = some (.int .u64 0) := blk_cell hv1 1 _ rfl
    have b2 : V.cell? ⟨w.heap.size + 1, 2, none⟩ = some (.slice none 0 0) := blk_cell hv1 2 _ rfl
    have b3 : V.cell? ⟨w.heap.size + 1, 3, none⟩ = some (.slice none 0 0) := blk_cell hv1 3 _ rfl
    have b4 : V.cell? ⟨w.heap.size + 1, 4, none⟩ = some (.slice none 0 0) := blk_cell hv1 4 _ rfl
    have f0 := blk_frozen hv1 0
    have f1 := blk_frozen hv1 1
    have f2 := blk_frozen hv1 2
    have f3 := blk_frozen hv1 3
    have f4 := blk_frozen hv1 4
    clear hx hp h hb hv1 hy h0
    rw [val_mk]
    go_enter Tryz.func66, Tryz.ntmps66
    go_wp2_with fail
    refine bodyPost_ret (V4.results_cellV rfl _ _ (w.heap.size + 1) (.int .u64 yn) (.int .u64 ym) (.slice ysA yss.length ysc) (.slice ycA ycs.length ycc) (.slice yvA yvs.length yvc) rfl (by go_simp) (by go_simp) (by go_simp) (by go_simp) (by go_simp)) rfl ?_
    exact ⟨rfl, HY.out.later (HB.out _ _ _ _ _), HB.out _ _ _ _ _⟩

end Go.Proofs.YtleejffjnknohaaGreat.J5

namespace Go.Proofs.YtleejffjnknohaaGreat.J5
open C3 (Tk)
open V4 (aheadC aheadC_trans)

theorem cmpS_ok : Cmp cmpS := by
  have lt : ∀ {x y : Str}, cmpS x y < 0 → x < y := fun {x y} h => by
    unfold cmpS at h
    by_cases h1 : x < y
    · exact h1
    · rw [if_neg h1] at h
      split at h <;> omega
  have tl : ∀ {x y : Str}, x < y → cmpS x y < 0 := fun {x y} h => by unfold cmpS; rw [if_pos h]; decide
  refine ⟨fun {x y} h => ?_, fun x => ?_, fun {x y} h => ?_, fun h1 h2 => tl (R1.str_trans (lt h1) (lt h2))⟩
  · unfold cmpS at h
    rcases R1.str_tri x y with h1 | h1 | h1
    · rw [if_pos h1] at h; omega
    · exact h1
    · rw [if_neg (R1.str_asymm h1), if_pos h1] at h; omega
  · unfold cmpS; rw [if_neg (R1.str_irrefl x), if_neg (R1.str_irrefl x)]
  · refine tl ?_
    unfold cmpS at h
    by_cases h1 : x < y
    · rw [if_pos h1] at h; omega
    · rw [if_neg h1] at h
      by_cases h2 : y < x
      · exact h2
      · rw [if_neg h2] at h; omega

theorem aheadC_irrefl : ∀ a : List Tk, aheadC a a = false
  | [] => by simp [aheadC]
  | x :: a => by simp only [aheadC, if_true]; exact aheadC_irrefl a
theorem aheadC_tri : ∀ a b : List Tk, aheadC a b = false → aheadC b a = false → a = b
  | [], [], _, _ => rfl
  | [], _ :: _, h, _ => by simp [aheadC] at h
  | _ :: _, [], _, h => by simp [aheadC] at h
  | x :: a, y :: b, h, h' => by
    simp only [aheadC] at h h'
    by_cases h1 : x.k = y.k
    · rw [if_pos h1] at h
      rw [if_pos h1.symm] at h'
      by_cases h2 : x.n = y.n
      · rw [if_pos h2] at h
        rw [if_pos h2.symm] at h'
        have e : x = y := by cases x; cases y; simp at h1 h2; simp [h1, h2]
        rw [e, aheadC_tri a b h h']
      · rw [if_neg h2] at h
        rw [if_neg (Ne.symm h2)] at h'
        simp at h h'; omega
    · rw [if_neg h1] at h
      rw [if_neg (Ne.symm h1)] at h'
      simp at h h'; omega

theorem cmpT_lt {a b : List Tk} : cmpT a b < 0 ↔ aheadC a b = true := by
  unfold cmpT
  by_cases h1 : aheadC a b = true
  · rw [if_pos h1]; simp [h1]
  · rw [if_neg h1]
    split <;> simp_all
theorem cmpT_ok : Cmp cmpT := by
  refine ⟨fun {x y} h => ?_, fun x => ?_, fun {x y} h => ?_, fun h1 h2 => cmpT_lt.2 (aheadC_trans _ _ _ (cmpT_lt.1 h1) (cmpT_lt.1 h2))⟩
  · unfold cmpT at h
    by_cases h1 : aheadC x y = true
    · rw [if_pos h1] at h; omega
    · rw [if_neg h1] at h
      by_cases h2 : aheadC y x = true
      · rw [if_pos h2] at h; omega
      · exact aheadC_tri x y (by simpa using h1) (by simpa using h2)
  · unfold cmpT; rw [aheadC_irrefl]; simp
  · refine cmpT_lt.2 ?_
    unfold cmpT at h
    by_cases h1 : aheadC x y = true
    · rw [if_pos h1] at h; omega
    · rw [if_neg h1] at h
      by_cases h2 : aheadC y x = true
      · exact h2
      · rw [if_neg h2] at h; omega

section
variable {M V : Type} {c : M → M → Int} {z : V}

/-- Marks that rise. -/
abbrev Up (c : M → M → Int) (l : List (M × V)) : Prop := l.Pairwise fun p q => c p.1 q.1 < 0

/-- At one mark there is one. -/
theorem up_one (hc : Cmp c) {l : List (M × V)} (h : Up c l) {p q : M × V} (hp : p ∈ l) (hq : q ∈ l) (e : p.1 = q.1) : p = q := by
  induction l with
  | nil => cases hp
  | cons x l ih =>
    obtain ⟨h1, h2⟩ := List.pairwise_cons.1 h
    rcases List.mem_cons.1 hp with rfl | hp' <;> rcases List.mem_cons.1 hq with rfl | hq'
    · rfl
    · exact absurd e (hc.ne (h1 q hq'))
    · exact absurd e.symm (hc.ne (h1 p hp'))
    · exact ih h2 hp' hq'

/-- Lines that have the same in them are the same. -/
theorem up_ext (hc : Cmp c) : ∀ {a b : List (M × V)}, Up c a → Up c b → (∀ p, p ∈ a ↔ p ∈ b) → a = b
  | [], [], _, _, _ => rfl
  | [], y :: b, _, _, h => by have := (h y).2 (by simp); cases this
  | x :: a, [], _, _, h => by have := (h x).1 (by simp); cases this
  | x :: a, y :: b, ha, hb, h => by
    obtain ⟨a1, a2⟩ := List.pairwise_cons.1 ha
    obtain ⟨b1, b2⟩ := List.pairwise_cons.1 hb
    have e : x = y := by
      rcases List.mem_cons.1 ((h x).1 (by simp)) with e | e
      · exact e
      · rcases List.mem_cons.1 ((h y).2 (by simp)) with e2 | e2
        · exact e2.symm
        · have h1 := b1 x e
          have h2 := a1 y e2
          have := hc.trans h1 h2
          rw [hc.refl] at this
          omega
    subst e
    rw [up_ext hc a2 b2 fun p => ⟨fun hp => ?_, fun hp => ?_⟩]
    · rcases List.mem_cons.1 ((h p).1 (by simp [hp])) with e | e
      · subst e; exact absurd rfl (hc.ne (a1 p hp))
      · exact e
    · rcases List.mem_cons.1 ((h p).2 (by simp [hp])) with e | e
      · subst e; exact absurd rfl (hc.ne (b1 p hp))
      · exact e

/-- What stands in both lines together. -/
def InMix (z : V) (a b : List (M × V)) (p : M × V × V) : Prop :=
  ((p.1, p.2.1) ∈ a ∧ (p.1, p.2.2) ∈ b) ∨ ((p.1, p.2.1) ∈ a ∧ (∀ q ∈ b, q.1 ≠ p.1) ∧ p.2.2 = z) ∨ ((∀ q ∈ a, q.1 ≠ p.1) ∧ p.2.1 = z ∧ (p.1, p.2.2) ∈ b)

theorem mem_mix (hc : Cmp c) (a b : List (M × V)) : Up c a → Up c b → ∀ p, p ∈ mix c z a b ↔ InMix z a b p := by
  induction a, b using mix.induct (c := c) with
  | case1 b =>
    intro _ _ p
    rw [mix, List.mem_map]
    constructor
    · rintro ⟨y, hy, rfl⟩
      exact .inr (.inr ⟨fun _ h => (by cases h), rfl, hy⟩)
    · rintro (⟨h, _⟩ | ⟨h, _⟩ | ⟨_, h1, h2⟩)
      · cases h
      · cases h
      · exact ⟨_, h2, by rw [← h1]⟩
  | case2 x a =>
    intro _ _ p
    rw [mix, List.mem_map]
    constructor
    · rintro ⟨y, hy, rfl⟩
      exact .inr (.inl ⟨hy, fun _ h => (by cases h), rfl⟩)
    · rintro (⟨_, h⟩ | ⟨h1, _, h2⟩ | ⟨_, _, h⟩)
      · cases h
      · exact ⟨_, h1, by rw [← h2]⟩
      · cases h
  | case3 x a y b h ih =>
    intro ha hb p
    obtain ⟨a1, a2⟩ := List.pairwise_cons.1 ha
    obtain ⟨b1, b2⟩ := List.pairwise_cons.1 hb
    have hxb : ∀ q ∈ y :: b, q.1 ≠ x.1 := fun q hq e => by
      rcases List.mem_cons.1 hq with rfl | hq
      · exact hc.ne h e.symm
      · exact hc.ne (hc.trans h (b1 q hq)) e.symm
    rw [mix_lt c z a b h, List.mem_cons, ih a2 hb p]
    constructor
    · rintro (rfl | h1 | ⟨h1, h2⟩ | ⟨h1, h2, h3⟩)
      · exact .inr (.inl ⟨by simp, hxb, rfl⟩)
      · exact .inl ⟨by simp [h1.1], h1.2⟩
      · exact .inr (.inl ⟨by simp [h1], h2⟩)
      · refine .inr (.inr ⟨fun q hq e => ?_, h2, h3⟩)
        rcases List.mem_cons.1 hq with rfl | hq
        · exact hxb _ h3 e.symm
        · exact h1 q hq e
    · rintro (⟨h1, h2⟩ | ⟨h1, h2, h3⟩ | ⟨h1, h2, h3⟩)
      · rcases List.mem_cons.1 h1 with e | h1
        · exact absurd (by rw [← e]) (hxb _ h2)
        · exact .inr (.inl ⟨h1, h2⟩)
      · rcases List.mem_cons.1 h1 with e | h1
        · refine .inl ?_
          rw [← e, ← h3]
        · exact .inr (.inr (.inl ⟨h1, h2, h3⟩))
      · exact .inr (.inr (.inr ⟨fun q hq => h1 q (by simp [hq]), h2, h3⟩))
  | case4 x a y b h h' ih =>
    intro ha hb p
    obtain ⟨a1, a2⟩ := List.pairwise_cons.1 ha
    obtain ⟨b1, b2⟩ := List.pairwise_cons.1 hb
    have h2 := hc.gt h'
    have hya : ∀ q ∈ x :: a, q.1 ≠ y.1 := fun q hq e => by
      rcases List.mem_cons.1 hq with rfl | hq
      · exact hc.ne h2 e.symm
      · exact hc.ne (hc.trans h2 (a1 q hq)) e.symm
    rw [mix_gt c z a b h', List.mem_cons, ih ha b2 p]
    constructor
    · rintro (rfl | h1 | ⟨h1, h3, h4⟩ | ⟨h1, h3, h4⟩)
      · exact .inr (.inr ⟨hya, rfl, by simp⟩)
      · exact .inl ⟨h1.1, by simp [h1.2]⟩
      · refine .inr (.inl ⟨h1, fun q hq e => ?_, h4⟩)
        rcases List.mem_cons.1 hq with rfl | hq
        · exact hya _ h1 e.symm
        · exact h3 q hq e
      · exact .inr (.inr ⟨h1, h3, by simp [h4]⟩)
    · rintro (⟨h1, h3⟩ | ⟨h1, h3, h4⟩ | ⟨h1, h3, h4⟩)
      · rcases List.mem_cons.1 h3 with e | h3
        · exact absurd (by rw [← e]) (hya _ h1)
        · exact .inr (.inl ⟨h1, h3⟩)
      · exact .inr (.inr (.inl ⟨h1, fun q hq => h3 q (by simp [hq]), h4⟩))
      · rcases List.mem_cons.1 h4 with e | h4
        · refine .inl ?_
          rw [← e, ← h3]
        · exact .inr (.inr (.inr ⟨h1, h3, h4⟩))
  | case5 x a y b h h' ih =>
    intro ha hb p
    obtain ⟨a1, a2⟩ := List.pairwise_cons.1 ha
    obtain ⟨b1, b2⟩ := List.pairwise_cons.1 hb
    have h0 : c x.1 y.1 = 0 := by omega
    have e0 : x.1 = y.1 := hc.eq h0
    rw [mix_eq c z a b h0, List.mem_cons, ih a2 b2 p]
    constructor
    · rintro (rfl | h1 | ⟨h1, h3, h4⟩ | ⟨h1, h3, h4⟩)
      · exact .inl ⟨by rw [← e0]; simp, by simp⟩
      · exact .inl ⟨by simp [h1.1], by simp [h1.2]⟩
      · refine .inr (.inl ⟨by simp [h1], fun q hq e => ?_, h4⟩)
        rcases List.mem_cons.1 hq with rfl | hq
        · exact hc.ne (a1 _ h1) (e0.trans e)
        · exact h3 q hq e
      · refine .inr (.inr ⟨fun q hq e => ?_, h3, by simp [h4]⟩)
        rcases List.mem_cons.1 hq with rfl | hq
        · exact hc.ne (b1 _ h4) (e0.symm.trans e)
        · exact h1 q hq e
    · rintro (⟨h1, h3⟩ | ⟨h1, h3, h4⟩ | ⟨h1, h3, h4⟩)
      · rcases List.mem_cons.1 h1 with e | h1 <;> rcases List.mem_cons.1 h3 with e2 | h3
        · refine .inl ?_
          rw [← e, ← e2]
        · exact absurd (by rw [← e0, ← e]) (hc.ne (b1 _ h3))
        · exact absurd (by rw [e0, ← e2]) (hc.ne (a1 _ h1))
        · exact .inr (.inl ⟨h1, h3⟩)
      · rcases List.mem_cons.1 h1 with e | h1
        · exact absurd (by rw [← e0, ← e]) (h3 y (by simp))
        · exact .inr (.inr (.inl ⟨h1, fun q hq => h3 q (by simp [hq]), h4⟩))
      · rcases List.mem_cons.1 h4 with e | h4
        · exact absurd (by rw [e0, ← e]) (h1 x (by simp))
        · exact .inr (.inr (.inr ⟨fun q hq => h1 q (by simp [hq]), h3, h4⟩))

/-- Its marks rise. -/
theorem mix_up (hc : Cmp c) (a b : List (M × V)) : Up c a → Up c b → Up c (mix c z a b) := by
  have low : ∀ (m : M) (a b : List (M × V)), (∀ q ∈ a, c m q.1 < 0) → (∀ q ∈ b, c m q.1 < 0) → ∀ p ∈ mix c z a b, c m p.1 < 0 := fun m a b h1 h2 p hp => by
    rcases (mix_mem c z a b hp).2.2 with ⟨x, hx, e⟩ | ⟨x, hx, e⟩
    · rw [← e]; exact h1 x hx
    · rw [← e]; exact h2 x hx
  induction a, b using mix.induct (c := c) with
  | case1 b => intro _ hb; rw [mix]; exact List.pairwise_map.2 hb
  | case2 x a => intro ha _; rw [mix]; exact List.pairwise_map.2 ha
  | case3 x a y b h ih =>
    intro ha hb
    obtain ⟨a1, a2⟩ := List.pairwise_cons.1 ha
    obtain ⟨b1, b2⟩ := List.pairwise_cons.1 hb
    rw [mix_lt c z a b h]
    refine List.pairwise_cons.2 ⟨low x.1 a (y :: b) a1 fun q hq => ?_, ih a2 hb⟩
    rcases List.mem_cons.1 hq with rfl | hq
    · exact h
    · exact hc.trans h (b1 q hq)
  | case4 x a y b h h' ih =>
    intro ha hb
    obtain ⟨a1, a2⟩ := List.pairwise_cons.1 ha
    obtain ⟨b1, b2⟩ := List.pairwise_cons.1 hb
    have h2 := hc.gt h'
    rw [mix_gt c z a b h']
    refine List.pairwise_cons.2 ⟨low y.1 (x :: a) b (fun q hq => ?_) b1, ih ha b2⟩
    rcases List.mem_cons.1 hq with rfl | hq
    · exact h2
    · exact hc.trans h2 (a1 q hq)
  | case5 x a y b h h' ih =>
    intro ha hb
    obtain ⟨a1, a2⟩ := List.pairwise_cons.1 ha
    obtain ⟨b1, b2⟩ := List.pairwise_cons.1 hb
    have h0 : c x.1 y.1 = 0 := by omega
    have e0 : x.1 = y.1 := hc.eq h0
    rw [mix_eq c z a b h0]
    exact List.pairwise_cons.2 ⟨low y.1 a b (e0 ▸ a1) b1, ih a2 b2⟩
end

/-- What comes of it. -/
theorem mem_allE {M V W : Type} {f : V → V → Option W} : ∀ {l : List (M × V × V)} {r : List (M × W)}, allE f l = some r → ∀ p, p ∈ r ↔ ∃ q ∈ l, q.1 = p.1 ∧ f q.2.1 q.2.2 = some p.2
  | [], r, h, p => by simp [allE] at h; subst h; simp
  | q :: l, r, h, p => by
    rw [allE] at h
    cases hf : f q.2.1 q.2.2 with
    | none => rw [hf] at h; simp at h
    | some v =>
      rw [hf] at h
      cases ha : allE f l with
      | none => rw [ha] at h; simp at h
      | some x =>
        rw [ha] at h
        simp at h
        subst h
        rw [List.mem_cons, mem_allE ha p]
        constructor
        · rintro (rfl | ⟨q', h1, h2⟩)
          · exact ⟨q, by simp, rfl, hf⟩
          · exact ⟨q', by simp [h1], h2⟩
        · rintro ⟨q', h1, h2, h3⟩
          rcases List.mem_cons.1 h1 with rfl | h1
          · refine .inl (Prod.ext h2.symm ?_)
            rw [hf] at h3
            exact (Option.some.inj h3).symm
          · exact .inr ⟨q', h1, h2, h3⟩
theorem togE_marks' {M V W : Type} {f : V → V → Option W} : ∀ {l : List (M × V × V)} {r : List (M × W)}, allE f l = some r → r.map (·.1) = l.map (·.1)
  | [], r, h => by simp [allE] at h; subst h; rfl
  | q :: l, r, h => by
    rw [allE] at h
    cases hf : f q.2.1 q.2.2 with
    | none => rw [hf] at h; simp at h
    | some v =>
      rw [hf] at h
      cases ha : allE f l with
      | none => rw [ha] at h; simp at h
      | some x =>
        rw [ha] at h
        simp at h
        subst h
        rw [List.map_cons, List.map_cons, togE_marks' ha]
theorem up_of_marks {M V W : Type} {c : M → M → Int} {l : List (M × V)} {r : List (M × W)} (h : r.map (·.1) = l.map (·.1)) (hl : Up c l) : Up c r := by
  have h1 : (l.map (·.1)).Pairwise (fun x y => c x y < 0) := List.pairwise_map.2 hl
  rw [← h] at h1
  exact List.pairwise_map.1 h1
end Go.Proofs.YtleejffjnknohaaGreat.J5

namespace Go.Proofs.YtleejffjnknohaaGreat.J5
open C3 (Tk isC isC_out isC_mk Asc ofC ofC_none ofC_mem underC cmpB cmpC cmpI mergeC mergeC_nil_left mergeC_nil_right mergeC_lt mergeC_gt mergeC_eq laterC)
open V4 (Va)

theorem ofC_get (l : List Tk) (q : Int) : (∃ t ∈ l, t.k = q ∧ ofC l q = t.n) ∨ ((∀ t ∈ l, t.k ≠ q) ∧ ofC l q = 0) := by
  induction l with
  | nil => exact .inr ⟨(fun _ h => by cases h), rfl⟩
  | cons x l ih =>
    rw [ofC]
    by_cases h : x.k = q
    · rw [if_pos h]; exact .inl ⟨x, by simp, h, rfl⟩
    · rw [if_neg h]
      rcases ih with ⟨t, h1, h2, h3⟩ | ⟨h1, h2⟩
      · exact .inl ⟨t, by simp [h1], h2, h3⟩
      · refine .inr ⟨fun t ht => ?_, h2⟩
        rcases List.mem_cons.1 ht with rfl | ht
        · exact h
        · exact h1 t ht
theorem ofC_nn {l : List Tk} (h : NnC l) (q : Int) : 0 ≤ ofC l q := by
  rcases ofC_get l q with ⟨t, h1, _, h3⟩ | ⟨_, h2⟩
  · rw [h3]; exact h t h1
  · omega
theorem under_of {a b : List Tk} (h : underC a b = true) (hb : NnC b) (q : Int) : ofC a q ≤ ofC b q := by
  unfold underC at h
  rcases ofC_get a q with ⟨t, h1, h2, h3⟩ | ⟨_, h2⟩
  · have := of_decide_eq_true (List.all_eq_true.1 h t h1)
    rw [h3, ← h2]; exact this
  · rw [h2]; exact ofC_nn hb q
theorem under_mk {a b : List Tk} (ha : Asc a) (h : ∀ q, ofC a q ≤ ofC b q) : underC a b = true := by
  unfold underC
  refine List.all_eq_true.2 fun t ht => decide_eq_true ?_
  have := h t.k
  rwa [ofC_mem ha ht] at this
theorem under_trans {a b c : List Tk} (h1 : underC a b = true) (h2 : underC b c = true) (hc : NnC c) : underC a c = true := by
  unfold underC at h1 ⊢
  refine List.all_eq_true.2 fun t ht => decide_eq_true ?_
  have := of_decide_eq_true (List.all_eq_true.1 h1 t ht)
  have := under_of h2 hc t.k
  omega
theorem under_refl {a : List Tk} (h : Asc a) : underC a a = true := under_mk h fun _ => Int.le_refl _
theorem clock_ext {a b : List Tk} (ha : isC a = true) (hb : isC b = true) (h : ∀ q, ofC a q = ofC b q) : a = b := by
  obtain ⟨_, a1, a2⟩ := isC_out ha
  obtain ⟨_, b1, b2⟩ := isC_out hb
  have mem : ∀ {a b : List Tk}, Asc a → (∀ x ∈ a, 0 ≤ x.k ∧ x.k ≤ 1000000 ∧ x.n ≠ 0) → (∀ q, ofC a q = ofC b q) → ∀ t ∈ a, t ∈ b := fun {a b} ha hz h t ht => by
    have e := h t.k
    rw [ofC_mem ha ht] at e
    rcases ofC_get b t.k with ⟨u, h1, h2, h3⟩ | ⟨_, h2⟩
    · have : u = t := by cases u; cases t; simp at h2 h3 e; simp [h2, e, h3]
      rw [← this]; exact h1
    · exact absurd (e.trans h2) (hz t ht).2.2
  have ext : ∀ {a b : List Tk}, Asc a → Asc b → (∀ t, t ∈ a ↔ t ∈ b) → a = b := fun {a b} ha hb h => by
    have h1 : (a.map fun t => (t.k, t.n)) = b.map fun t => (t.k, t.n) := by
      refine up_ext (c := fun x y : Int => x - y) ⟨fun h => by omega, fun x => by omega, fun h => by omega, fun h1 h2 => by omega⟩ (List.pairwise_map.2 (ha.imp fun h => by simp; omega)) (List.pairwise_map.2 (hb.imp fun h => by simp; omega)) fun p => ?_
      rw [List.mem_map, List.mem_map]
      exact ⟨fun ⟨t, ht, e⟩ => ⟨t, (h t).1 ht, e⟩, fun ⟨t, ht, e⟩ => ⟨t, (h t).2 ht, e⟩⟩
    have h2 := congrArg (fun l : List (Int × Int) => l.map fun p => Tk.mk p.1 p.2) h1
    simpa [Function.comp_def] using h2
  exact ext a1 b1 fun t => ⟨mem a1 a2 h t, mem b1 b2 (fun q => (h q).symm) t⟩

theorem cmpC_lt {a b : List Tk} : cmpC a b = -1 ↔ underC a b = true ∧ underC b a = false := by
  unfold cmpC
  cases underC a b <;> cases underC b a <;> simp [cmpB]
theorem cmpC_trans {a b c : List Tk} (h1 : cmpC a b = -1) (h2 : cmpC b c = -1) (hb : NnC b) (hc : NnC c) : cmpC a c = -1 := by
  rw [cmpC_lt] at *
  refine ⟨under_trans h1.1 h2.1 hc, ?_⟩
  cases h : underC c a with
  | false => rfl
  | true =>
    have := under_trans h h1.1 hb
    rw [h2.2] at this
    cases this
theorem cmpC_irrefl (a : List Tk) : cmpC a a ≠ -1 := by
  rw [Ne, cmpC_lt]
  rintro ⟨h1, h2⟩
  rw [h1] at h2
  cases h2

theorem mem_merge {t : Tk} (a b : List Tk) (h : t ∈ mergeC a b) : t ∈ a ∨ t ∈ b := by
  induction a, b using mergeC.induct with
  | case1 b => rw [mergeC_nil_left] at h; exact .inr h
  | case2 x a => rw [mergeC_nil_right] at h; exact .inl h
  | case3 x a y b hlt ih =>
    rw [mergeC_lt _ _ hlt] at h
    rcases List.mem_cons.1 h with rfl | h
    · exact .inl (by simp)
    · exact (ih h).imp (fun h => by simp [h]) id
  | case4 x a y b hlt hgt ih =>
    rw [mergeC_gt _ _ hgt] at h
    rcases List.mem_cons.1 h with rfl | h
    · exact .inr (by simp)
    · exact (ih h).imp id (fun h => by simp [h])
  | case5 x a y b hlt hgt ih =>
    rw [mergeC_eq _ _ (by omega)] at h
    rcases List.mem_cons.1 h with e | h
    · subst e
      unfold laterC
      split
      · exact .inr (by simp)
      · exact .inl (by simp)
    · exact (ih h).imp (fun h => by simp [h]) (fun h => by simp [h])
theorem merge_asc (a b : List Tk) : Asc a → Asc b → Asc (mergeC a b) := by
  induction a, b using mergeC.induct with
  | case1 b => rw [mergeC_nil_left]; exact fun _ h => h
  | case2 x a => rw [mergeC_nil_right]; exact fun h _ => h
  | case3 x a y b hlt ih =>
    intro ha hb
    obtain ⟨a1, a2⟩ := List.pairwise_cons.1 ha
    obtain ⟨b1, b2⟩ := List.pairwise_cons.1 hb
    rw [mergeC_lt _ _ hlt]
    refine List.pairwise_cons.2 ⟨fun t ht => ?_, ih a2 hb⟩
    rcases mem_merge _ _ ht with h | h
    · exact a1 t h
    · rcases List.mem_cons.1 h with rfl | h
      · exact hlt
      · have := b1 t h; omega
  | case4 x a y b hlt hgt ih =>
    intro ha hb
    obtain ⟨a1, a2⟩ := List.pairwise_cons.1 ha
    obtain ⟨b1, b2⟩ := List.pairwise_cons.1 hb
    rw [mergeC_gt _ _ hgt]
    refine List.pairwise_cons.2 ⟨fun t ht => ?_, ih ha b2⟩
    rcases mem_merge _ _ ht with h | h
    · rcases List.mem_cons.1 h with rfl | h
      · exact hgt
      · have := a1 t h; omega
    · exact b1 t h
  | case5 x a y b hlt hgt ih =>
    intro ha hb
    obtain ⟨a1, a2⟩ := List.pairwise_cons.1 ha
    obtain ⟨b1, b2⟩ := List.pairwise_cons.1 hb
    have e : x.k = y.k := by omega
    rw [mergeC_eq _ _ e]
    refine List.pairwise_cons.2 ⟨fun t ht => ?_, ih a2 b2⟩
    have hk : (laterC x y).k = x.k := by unfold laterC; split; exact e.symm; rfl
    rw [hk]
    rcases mem_merge _ _ ht with h | h
    · exact a1 t h
    · rw [e]; exact b1 t h
theorem ofC_merge (a b : List Tk) : Asc a → Asc b → NnC a → NnC b → ∀ q, ofC (mergeC a b) q = max (ofC a q) (ofC b q) := by
  have low : ∀ {l : List Tk} {q : Int}, (∀ t ∈ l, q < t.k) → ofC l q = 0 := fun {l q} h => ofC_none fun t ht => by have := h t ht; omega
  induction a, b using mergeC.induct with
  | case1 b => intro _ _ _ hb q; rw [mergeC_nil_left, ofC]; have := ofC_nn hb q; omega
  | case2 x a => intro _ _ ha _ q; rw [mergeC_nil_right]; have := ofC_nn ha q; simp only [ofC] at this ⊢; omega
  | case3 x a y b hlt ih =>
    intro ha hb na nb q
    obtain ⟨a1, a2⟩ := List.pairwise_cons.1 ha
    obtain ⟨b1, b2⟩ := List.pairwise_cons.1 hb
    rw [mergeC_lt _ _ hlt, ofC, ih a2 hb (fun t ht => na t (by simp [ht])) nb q]
    by_cases h : x.k = q
    · rw [if_pos h, ofC, if_pos h]
      have : ofC (y :: b) q = 0 := low fun t ht => by
        rcases List.mem_cons.1 ht with rfl | ht
        · omega
        · have := b1 t ht; omega
      rw [this]
      have := na x (by simp); omega
    · rw [if_neg h, ofC.eq_2 q x a, if_neg h]
  | case4 x a y b hlt hgt ih =>
    intro ha hb na nb q
    obtain ⟨a1, a2⟩ := List.pairwise_cons.1 ha
    obtain ⟨b1, b2⟩ := List.pairwise_cons.1 hb
    rw [mergeC_gt _ _ hgt, ofC, ih ha b2 na (fun t ht => nb t (by simp [ht])) q]
    by_cases h : y.k = q
    · rw [if_pos h, ofC.eq_2 q y b, if_pos h]
      have : ofC (x :: a) q = 0 := low fun t ht => by
        rcases List.mem_cons.1 ht with rfl | ht
        · omega
        · have := a1 t ht; omega
      rw [this]
      have := nb y (by simp); omega
    · rw [if_neg h, ofC.eq_2 q y b, if_neg h]
  | case5 x a y b hlt hgt ih =>
    intro ha hb na nb q
    obtain ⟨a1, a2⟩ := List.pairwise_cons.1 ha
    obtain ⟨b1, b2⟩ := List.pairwise_cons.1 hb
    have e : x.k = y.k := by omega
    rw [mergeC_eq _ _ e, ofC, ih a2 b2 (fun t ht => na t (by simp [ht])) (fun t ht => nb t (by simp [ht])) q, ofC.eq_2 q x a, ofC.eq_2 q y b]
    have hk : (laterC x y).k = x.k := by unfold laterC; split; exact e.symm; rfl
    rw [hk, ← e]
    by_cases h : x.k = q
    · rw [if_pos h, if_pos h, if_pos h]
      unfold laterC
      split <;> omega
    · rw [if_neg h, if_neg h, if_neg h]

/-- First by the one, then by the other. -/
def lexC {A B : Type} (c : A → A → Int) (d : B → B → Int) (x y : A × B) : Int := if c x.1 y.1 = 0 then d x.2 y.2 else c x.1 y.1
theorem lexC_ok {A B : Type} {c : A → A → Int} {d : B → B → Int} (hc : Cmp c) (hd : Cmp d) : Cmp (lexC c d) := by
  refine ⟨fun {x y} h => ?_, fun x => ?_, fun {x y} h => ?_, fun {x y z} h1 h2 => ?_⟩
  · unfold lexC at h
    by_cases h0 : c x.1 y.1 = 0
    · rw [if_pos h0] at h; exact Prod.ext (hc.eq h0) (hd.eq h)
    · rw [if_neg h0] at h; exact absurd h h0
  · unfold lexC; rw [if_pos (hc.refl _)]; exact hd.refl _
  · unfold lexC at h ⊢
    by_cases h0 : c x.1 y.1 = 0
    · rw [if_pos h0] at h
      rw [hc.eq h0, if_pos (hc.refl _)]; exact hd.gt h
    · rw [if_neg h0] at h
      have := hc.gt h
      rw [if_neg (by omega)]; exact this
  · unfold lexC at h1 h2 ⊢
    by_cases e1 : c x.1 y.1 = 0
    · rw [if_pos e1] at h1
      rw [hc.eq e1]
      by_cases e2 : c y.1 z.1 = 0
      · rw [if_pos e2] at h2 ⊢; exact hd.trans h1 h2
      · rw [if_neg e2] at h2 ⊢; exact h2
    · rw [if_neg e1] at h1
      by_cases e2 : c y.1 z.1 = 0
      · rw [if_pos e2] at h2
        rw [← hc.eq e2, if_neg e1]; exact h1
      · rw [if_neg e2] at h2
        have := hc.trans h1 h2
        rw [if_neg (by omega)]; exact this

theorem cmpI_ok : Cmp cmpI := by
  refine ⟨fun {x y} h => ?_, fun x => C3.cmpI_eq x, fun {x y} h => ?_, fun {x y z} h1 h2 => ?_⟩ <;> unfold cmpI at *
  · split at h
    · omega
    · split at h <;> omega
  · split at h
    · omega
    · split at h
      · rw [if_pos (by omega)]; decide
      · omega
  · have e1 : x < y := by
      split at h1
      · assumption
      · split at h1 <;> omega
    have e2 : y < z := by
      split at h2
      · assumption
      · split at h2 <;> omega
    rw [if_pos (by omega)]; decide
theorem cmpL_ok : Cmp cmpL := by
  have eq : ∀ x y : List Str, cmpL x y = 0 → x = y := by
    intro x
    induction x with
    | nil => intro y h; cases y with
      | nil => rfl
      | cons y b => simp [cmpL] at h
    | cons x a ih => intro y h; cases y with
      | nil => simp [cmpL] at h
      | cons y b =>
        rw [cmpL] at h
        by_cases h0 : cmpS x y = 0
        · rw [if_pos h0] at h; rw [cmpS_ok.eq h0, ih b h]
        · rw [if_neg h0] at h; exact absurd h h0
  have refl : ∀ x : List Str, cmpL x x = 0 := by
    intro x
    induction x with
    | nil => rfl
    | cons x a ih => rw [cmpL, if_pos (cmpS_ok.refl _), ih]
  have gt : ∀ x y : List Str, 0 < cmpL x y → cmpL y x < 0 := by
    intro x
    induction x with
    | nil => intro y h; cases y with
      | nil => simp [cmpL] at h
      | cons y b => simp [cmpL] at h
    | cons x a ih => intro y h; cases y with
      | nil => simp [cmpL]
      | cons y b =>
        rw [cmpL] at h ⊢
        by_cases h0 : cmpS x y = 0
        · rw [if_pos h0] at h
          rw [cmpS_ok.eq h0, if_pos (cmpS_ok.refl _)]; exact ih b h
        · rw [if_neg h0] at h
          have := cmpS_ok.gt h
          rw [if_neg (by omega)]; exact this
  have trans : ∀ x y z : List Str, cmpL x y < 0 → cmpL y z < 0 → cmpL x z < 0 := by
    intro x
    induction x with
    | nil => intro y z h1 h2; cases y with
      | nil => simp [cmpL] at h1
      | cons y b => cases z with
        | nil => simp [cmpL] at h2
        | cons z c => simp [cmpL]
    | cons x a ih => intro y z h1 h2; cases y with
      | nil => simp [cmpL] at h1
      | cons y b => cases z with
        | nil => simp [cmpL] at h2
        | cons z c =>
          rw [cmpL] at h1 h2 ⊢
          by_cases e1 : cmpS x y = 0
          · rw [if_pos e1] at h1
            rw [cmpS_ok.eq e1]
            by_cases e2 : cmpS y z = 0
            · rw [if_pos e2] at h2 ⊢; exact ih b c h1 h2
            · rw [if_neg e2] at h2 ⊢; exact h2
          · rw [if_neg e1] at h1
            by_cases e2 : cmpS y z = 0
            · rw [if_pos e2] at h2
              rw [← cmpS_ok.eq e2, if_neg e1]; exact h1
            · rw [if_neg e2] at h2
              have := cmpS_ok.trans h1 h2
              rw [if_neg (by omega)]; exact this
  exact ⟨fun {x y} => eq x y, refl, fun {x y} => gt x y, fun {x y z} => trans x y z⟩

/-- What a last writer is told by. -/
def keyW (x : Va) : Int × Int × List Str := (x.n, x.m, x.s)
theorem writer_lex (x y : Va) : writerI x y = lexC cmpI (lexC cmpI cmpL) (keyW x) (keyW y) := rfl
theorem keyW_ok : Cmp (lexC cmpI (lexC cmpI cmpL)) := lexC_ok cmpI_ok (lexC_ok cmpI_ok cmpL_ok)
theorem writer_zero {y : Va} (h1 : 0 ≤ y.n) (h2 : 0 ≤ y.m) : writerI .zero y ≤ 0 := by
  unfold writerI
  show (if cmpI 0 y.n = 0 then (if cmpI 0 y.m = 0 then cmpL [] y.s else cmpI 0 y.m) else cmpI 0 y.n) ≤ 0
  have c : ∀ {k : Int}, 0 ≤ k → cmpI 0 k ≤ 0 := fun {k} h => by unfold cmpI; split; decide; rw [if_neg (by omega)]; decide
  split
  · split
    · cases y.s <;> simp [cmpL]
    · exact c h2
  · exact c h1
end Go.Proofs.YtleejffjnknohaaGreat.J5

namespace Go.Proofs.YtleejffjnknohaaGreat.J5
open C3 (Tk isC isC_out Asc ofC underC cmpC)
open S2 (Tr isT)
open V4 (Va isV botT ApR isT_le)

def mapLe (f : Va → Va → Prop) (x y : Va) : Prop := ∀ p ∈ x.s.zip x.v, ∃ q ∈ y.s.zip y.v, q.1 = p.1 ∧ f p.2 q.2
def causeLe (f : Va → Va → Prop) (x y : Va) : Prop := ∀ p ∈ x.c.zip x.v, (∃ q ∈ y.c.zip y.v, cmpC p.1 q.1 = -1) ∨ ∃ q ∈ y.c.zip y.v, q.1 = p.1 ∧ f p.2 q.2

/-- Less, or the same. -/
def leV : Tr → Va → Va → Prop
  | .mk k [], x, y => if k = 3 then ∀ s ∈ x.s, s ∈ y.s else if k = 6 then writerI x y ≤ 0 else if k = 7 then underC (ckE x) (ckE y) = true else x.n ≤ y.n
  | .mk k [a], x, y => if k = 4 then mapLe (leV a) x y else causeLe (leV a) x y
  | .mk _ [a, b], x, y => leV a (halfE x 0) (halfE y 0) ∧ leV b (halfE x 1) (halfE y 1)
  | .mk _ (_ :: _ :: _ :: _), _, _ => False

theorem Nn.half {x : Va} (h : Nn x) (i : Nat) : Nn (halfE x i) := by
  unfold halfE
  cases e : x.v[i]? with
  | none => exact .zero
  | some y => exact h.out.2.2.2 y (List.mem_of_getElem? e)
theorem leV_num {k : Int} (hk : k = 1 ∨ k = 2) (x y : Va) : leV (.mk k []) x y ↔ x.n ≤ y.n := by rw [leV, if_neg (by omega), if_neg (by omega), if_neg (by omega)]
theorem leV_set (x y : Va) : leV (.mk 3 []) x y ↔ ∀ s ∈ x.s, s ∈ y.s := by rw [leV, if_pos rfl]
theorem leV_last (x y : Va) : leV (.mk 6 []) x y ↔ writerI x y ≤ 0 := by rw [leV, if_neg (by decide), if_pos rfl]
theorem leV_clock (x y : Va) : leV (.mk 7 []) x y ↔ underC (ckE x) (ckE y) = true := by rw [leV, if_neg (by decide), if_neg (by decide), if_pos rfl]
theorem leV_map (a : Tr) (x y : Va) : leV (.mk 4 [a]) x y ↔ mapLe (leV a) x y := by rw [leV, if_pos rfl]
theorem leV_cause (a : Tr) (x y : Va) : leV (.mk 8 [a]) x y ↔ causeLe (leV a) x y := by rw [leV, if_neg (by decide)]
theorem leV_pair (a b : Tr) (x y : Va) : leV (.mk 5 [a, b]) x y ↔ leV a (halfE x 0) (halfE y 0) ∧ leV b (halfE x 1) (halfE y 1) := by rw [leV]

/-- Nothing is less than all. -/
theorem leV_zero : ∀ (n : Nat) (t : Tr), isT n t = true → ∀ y, Nn y → leV t .zero y := by
  intro n
  induction n with
  | zero => intro t h; simp [isT] at h
  | succ n ih =>
    intro t h y hy
    obtain ⟨m, hm, h⟩ := isT_cases h
    obtain rfl : n = m := by omega
    rcases h with ⟨k, hk, rfl⟩ | ⟨k, a, hk, rfl, ha⟩ | ⟨a, b, rfl, ha, hb⟩
    · rcases hk with rfl | rfl | rfl | rfl | rfl
      · exact (leV_num (.inl rfl) _ _).2 hy.out.1
      · exact (leV_num (.inr rfl) _ _).2 hy.out.1
      · exact (leV_set _ _).2 fun s hs => by cases hs
      · exact (leV_last _ _).2 (writer_zero hy.out.1 hy.out.2.1)
      · exact (leV_clock _ _).2 rfl
    · rcases hk with rfl | rfl
      · exact (leV_map _ _ _).2 fun p hp => by cases hp
      · exact (leV_cause _ _ _).2 fun p hp => by cases hp
    · exact (leV_pair _ _ _ _).2 ⟨ih a ha _ (hy.half 0), ih b hb _ (hy.half 1)⟩

theorem leV_bot : ∀ (n : Nat) (t : Tr), n ≤ 16 → isT n t = true → ∀ y, Nn y → leV t (botT t) y := by
  intro n
  induction n with
  | zero => intro t _ h; simp [isT] at h
  | succ n ih =>
    intro t hn h y hy
    rcases botT_of h hn with ⟨e, _⟩ | ⟨a, b, rfl, e⟩
    · rw [e]; exact leV_zero _ t h y hy
    · obtain ⟨m, hm, h⟩ := isT_cases h
      obtain rfl : n = m := by omega
      rcases h with ⟨k, _, e2⟩ | ⟨k, _, _, e2, _⟩ | ⟨a', b', e2, ha, hb⟩
      · cases e2
      · cases e2
      · cases e2
        rw [e]
        exact (leV_pair _ _ _ _).2 ⟨ih a (by omega) ha _ (hy.half 0), ih b (by omega) hb _ (hy.half 1)⟩

theorem zip_nn {M : Type} {l : List M} {v : List Va} (h : ∀ y ∈ v, Nn y) {p : M × Va} (hp : p ∈ l.zip v) : Nn p.2 := h _ (List.of_mem_zip hp).2

theorem leV_trans : ∀ (n : Nat) (t : Tr), isT n t = true → ∀ x y z, Nn x → Nn y → Nn z → leV t x y → leV t y z → leV t x z := by
  intro n
  induction n with
  | zero => intro t h; simp [isT] at h
  | succ n ih =>
    intro t h x y z hx hy hz h1 h2
    obtain ⟨m, hm, h⟩ := isT_cases h
    obtain rfl : n = m := by omega
    rcases h with ⟨k, hk, rfl⟩ | ⟨k, a, hk, rfl, ha⟩ | ⟨a, b, rfl, ha, hb⟩
    · rcases hk with rfl | rfl | rfl | rfl | rfl
      · rw [leV_num (.inl rfl)] at *; omega
      · rw [leV_num (.inr rfl)] at *; omega
      · rw [leV_set] at *; exact fun s hs => h2 s (h1 s hs)
      · rw [leV_last] at *
        rw [writer_lex] at *
        exact keyW_ok.le_trans h1 h2
      · rw [leV_clock] at *; exact under_trans h1 h2 hz.ck
    · rcases hk with rfl | rfl
      · rw [leV_map] at *
        intro p hp
        obtain ⟨q, hq, e, hl⟩ := h1 p hp
        obtain ⟨r, hr, e2, hl2⟩ := h2 q hq
        exact ⟨r, hr, e2.trans e, ih a ha _ _ _ (zip_nn hx.out.2.2.2 hp) (zip_nn hy.out.2.2.2 hq) (zip_nn hz.out.2.2.2 hr) hl hl2⟩
      · rw [leV_cause] at *
        intro p hp
        rcases h1 p hp with ⟨q, hq, hc⟩ | ⟨q, hq, e, hl⟩
        · rcases h2 q hq with ⟨r, hr, hc2⟩ | ⟨r, hr, e2, _⟩
          · exact .inl ⟨r, hr, cmpC_trans hc hc2 (hy.out.2.2.1 _ (List.of_mem_zip hq).1) (hz.out.2.2.1 _ (List.of_mem_zip hr).1)⟩
          · exact .inl ⟨r, hr, by rw [e2]; exact hc⟩
        · rcases h2 q hq with ⟨r, hr, hc2⟩ | ⟨r, hr, e2, hl2⟩
          · exact .inl ⟨r, hr, by rw [← e]; exact hc2⟩
          · exact .inr ⟨r, hr, e2.trans e, ih a ha _ _ _ (zip_nn hx.out.2.2.2 hp) (zip_nn hy.out.2.2.2 hq) (zip_nn hz.out.2.2.2 hr) hl hl2⟩
    · rw [leV_pair] at *
      exact ⟨ih a ha _ _ _ (hx.half 0) (hy.half 0) (hz.half 0) h1.1 h2.1, ih b hb _ _ _ (hx.half 1) (hy.half 1) (hz.half 1) h1.2 h2.2⟩

theorem srt_up {V : Type} {s : List Str} {v : List V} (h : R1.Srt s) (hl : s.length = v.length) : Up cmpS (s.zip v) := by
  have h1 : ((s.zip v).map (·.1)).Pairwise (fun x y => cmpS x y < 0) := by
    rw [List.map_fst_zip (by omega)]
    exact h.imp fun h => by unfold cmpS; rw [if_pos h]; decide
  exact List.pairwise_map.1 h1
theorem apr_up {V : Type} {c : List (List Tk)} {v : List V} (h : c.Pairwise ApR) (hl : c.length = v.length) : Up cmpT (c.zip v) := by
  have h1 : ((c.zip v).map (·.1)).Pairwise (fun x y => cmpT x y < 0) := by
    rw [List.map_fst_zip (by omega)]
    exact h.imp fun h => cmpT_lt.2 h.1
  exact List.pairwise_map.1 h1
theorem zip_inj {M V : Type} {s s' : List M} {v v' : List V} (hl : s.length = v.length) (hl' : s'.length = v'.length) (h : s.zip v = s'.zip v') : s = s' ∧ v = v' := by
  have h1 := congrArg (List.map (·.1)) h
  have h2 := congrArg (List.map (·.2)) h
  rw [List.map_fst_zip (by omega), List.map_fst_zip (by omega)] at h1
  rw [List.map_snd_zip (by omega), List.map_snd_zip (by omega)] at h2
  exact ⟨h1, h2⟩
/-- Of versions none has seen another one. -/
theorem apr_not {c : List (List Tk)} (h : c.Pairwise ApR) {a b : List Tk} (ha : a ∈ c) (hb : b ∈ c) : cmpC a b ≠ -1 := by
  induction c with
  | nil => cases ha
  | cons x c ih =>
    obtain ⟨h1, h2⟩ := List.pairwise_cons.1 h
    rcases List.mem_cons.1 ha with rfl | ha' <;> rcases List.mem_cons.1 hb with rfl | hb'
    · exact cmpC_irrefl _
    · rw [(h1 b hb').2]; decide
    · have := (h1 a ha').2
      unfold cmpC at this ⊢
      cases h3 : C3.underC b a <;> cases h4 : C3.underC a b <;> rw [h3, h4] at this <;> simp [C3.cmpB] at this ⊢
    · exact ih h2 ha' hb'

theorem ck_ok {x : Va} (h : isV (.mk 7 []) x = true) : isC (ckE x) = true ∧ (ckE x = [] → x = .zero) ∧ (ckE x ≠ [] → x = .mk 0 0 [] [ckE x] []) := by
  rcases isV_clock.1 h with rfl | ⟨c, rfl, h1, h2⟩
  · exact ⟨rfl, fun _ => rfl, fun h => absurd rfl h⟩
  · exact ⟨h1, fun h => absurd h h2, fun _ => rfl⟩

theorem leV_antisymm : ∀ (n : Nat) (t : Tr), isT n t = true → ∀ x y, isV t x = true → isV t y = true → Nn x → Nn y → leV t x y → leV t y x → x = y := by
  intro n
  induction n with
  | zero => intro t h; simp [isT] at h
  | succ n ih =>
    intro t h x y vx vy hx hy h1 h2
    obtain ⟨m, hm, h⟩ := isT_cases h
    obtain rfl : n = m := by omega
    rcases h with ⟨k, hk, rfl⟩ | ⟨k, a, hk, rfl, ha⟩ | ⟨a, b, rfl, ha, hb⟩
    · have num : ∀ {k : Int}, k = 1 ∨ k = 2 → isV (.mk k []) x = true → isV (.mk k []) y = true → leV (.mk k []) x y → leV (.mk k []) y x → x = y := fun hk vx vy h1 h2 => by
        obtain ⟨p, rfl, _⟩ := (isV_num hk).1 vx
        obtain ⟨q, rfl, _⟩ := (isV_num hk).1 vy
        rw [leV_num hk] at h1 h2
        simp only [Va.n] at h1 h2
        rw [Int.le_antisymm h1 h2]
      rcases hk with rfl | rfl | rfl | rfl | rfl
      · exact num (.inl rfl) vx vy h1 h2
      · exact num (.inr rfl) vx vy h1 h2
      · obtain ⟨s, rfl, h3, _⟩ := isV_set.1 vx
        obtain ⟨s', rfl, h4, _⟩ := isV_set.1 vy
        rw [leV_set] at h1 h2
        rw [R1.srt_ext h3 h4 fun z => ⟨h1 z, h2 z⟩]
      · rw [leV_last, writer_lex] at h1 h2
        have e := keyW_ok.le_antisymm h1 h2
        have form : ∀ {x : Va}, isV (.mk 6 []) x = true → x = .mk x.n x.m x.s [] [] := fun {x} h => by
          rcases isV_last.1 h with rfl | ⟨_, _, _, rfl, _⟩ <;> rfl
        rw [form vx, form vy]
        unfold keyW at e
        obtain ⟨e1, e2⟩ := Prod.mk.inj e
        obtain ⟨e2, e3⟩ := Prod.mk.inj e2
        rw [e1, e2, e3]
      · rw [leV_clock] at h1 h2
        obtain ⟨a1, a2, a3⟩ := ck_ok vx
        obtain ⟨b1, b2, b3⟩ := ck_ok vy
        have e : ckE x = ckE y := clock_ext a1 b1 fun q => Int.le_antisymm (under_of h1 hy.ck q) (under_of h2 hx.ck q)
        by_cases h0 : ckE x = []
        · rw [a2 h0, b2 (e ▸ h0)]
        · rw [a3 h0, b3 (e ▸ h0), e]
    · rcases hk with rfl | rfl
      · obtain ⟨s, v, rfl, s1, s2, s3, s4, s5⟩ := isV_map.1 vx
        obtain ⟨s', v', rfl, r1, r2, r3, r4, r5⟩ := isV_map.1 vy
        rw [leV_map] at h1 h2
        have sub : ∀ {s s' : List Str} {v v' : List Va}, R1.Srt s → R1.Srt s' → s.length = v.length → s'.length = v'.length → (∀ y ∈ v, isV a y = true ∧ y ≠ botT a) → (∀ y ∈ v', isV a y = true ∧ y ≠ botT a) → (∀ y ∈ v, Nn y) → (∀ y ∈ v', Nn y) → mapLe (leV a) (.mk 0 0 s [] v) (.mk 0 0 s' [] v') → mapLe (leV a) (.mk 0 0 s' [] v') (.mk 0 0 s [] v) → ∀ p, p ∈ s.zip v → p ∈ s'.zip v' :=
          fun {s s' v v'} s1 r1 s2 r2 s5 r5 n1 n2 h1 h2 p hp => by
            obtain ⟨q, hq, e, hl⟩ := h1 p hp
            obtain ⟨r, hr, e2, hl2⟩ := h2 q hq
            have : r = p := up_one cmpS_ok (srt_up s1 s2) hr hp (e2.trans e)
            subst this
            have : r.2 = q.2 := ih a ha _ _ (s5 _ (List.of_mem_zip hp).2).1 (r5 _ (List.of_mem_zip hq).2).1 (zip_nn n1 hp) (zip_nn n2 hq) hl hl2
            have : r = q := Prod.ext e.symm this
            rw [this]; exact hq
        have e := up_ext cmpS_ok (srt_up s1 s2) (srt_up r1 r2) fun p => ⟨sub s1 r1 s2 r2 s5 r5 hx.out.2.2.2 hy.out.2.2.2 h1 h2 p, sub r1 s1 r2 s2 r5 s5 hy.out.2.2.2 hx.out.2.2.2 h2 h1 p⟩
        obtain ⟨e1, e2⟩ := zip_inj s2 r2 e
        rw [e1, e2]
      · obtain ⟨s, v, rfl, s2, s3, s1, s4, s5⟩ := isV_cause.1 vx
        obtain ⟨s', v', rfl, r2, r3, r1, r4, r5⟩ := isV_cause.1 vy
        rw [leV_cause] at h1 h2
        have sub : ∀ {s s' : List (List Tk)} {v v' : List Va}, s.Pairwise ApR → s'.Pairwise ApR → s.length = v.length → s'.length = v'.length → (∀ y ∈ v, isV a y = true) → (∀ y ∈ v', isV a y = true) → Nn (.mk 0 0 [] s v) → Nn (.mk 0 0 [] s' v') → causeLe (leV a) (.mk 0 0 [] s v) (.mk 0 0 [] s' v') → causeLe (leV a) (.mk 0 0 [] s' v') (.mk 0 0 [] s v) → ∀ p, p ∈ s.zip v → p ∈ s'.zip v' :=
          fun {s s' v v'} s1 r1 s2 r2 s5 r5 n1 n2 h1 h2 p hp => by
            rcases h1 p hp with ⟨q, hq, hc⟩ | ⟨q, hq, e, hl⟩
            · rcases h2 q hq with ⟨r, hr, hc2⟩ | ⟨r, hr, e2, _⟩
              · exact absurd (cmpC_trans hc hc2 (n2.out.2.2.1 _ (List.of_mem_zip hq).1) (n1.out.2.2.1 _ (List.of_mem_zip hr).1)) (apr_not s1 (List.of_mem_zip hp).1 (List.of_mem_zip hr).1)
              · exact absurd (by rw [e2]; exact hc) (apr_not s1 (List.of_mem_zip hp).1 (List.of_mem_zip hr).1)
            · rcases h2 q hq with ⟨r, hr, hc2⟩ | ⟨r, hr, e2, hl2⟩
              · exact absurd (by rw [← e]; exact hc2) (apr_not s1 (List.of_mem_zip hp).1 (List.of_mem_zip hr).1)
              · have : r = p := up_one cmpT_ok (apr_up s1 s2) hr hp (e2.trans e)
                subst this
                have : r.2 = q.2 := ih a ha _ _ (s5 _ (List.of_mem_zip hp).2) (r5 _ (List.of_mem_zip hq).2) (zip_nn n1.out.2.2.2 hp) (zip_nn n2.out.2.2.2 hq) hl hl2
                have : r = q := Prod.ext e.symm this
                rw [this]; exact hq
        have e := up_ext cmpT_ok (apr_up s1 s2) (apr_up r1 r2) fun p => ⟨sub s1 r1 s2 r2 s5 r5 hx hy h1 h2 p, sub r1 s1 r2 s2 r5 s5 hy hx h2 h1 p⟩
        obtain ⟨e1, e2⟩ := zip_inj s2 r2 e
        rw [e1, e2]
    · obtain ⟨u, v, rfl, s1, s2⟩ := isV_pair.1 vx
      obtain ⟨u', v', rfl, r1, r2⟩ := isV_pair.1 vy
      rw [leV_pair] at h1 h2
      have e1 : u = u' := ih a ha u u' s1 r1 (hx.half 0) (hy.half 0) h1.1 h2.1
      have e2 : v = v' := ih b hb v v' s2 r2 (hx.half 1) (hy.half 1) h1.2 h2.2
      rw [e1, e2]
theorem leV_refl : ∀ (n : Nat) (t : Tr), isT n t = true → ∀ x, isV t x = true → Nn x → leV t x x := by
  intro n
  induction n with
  | zero => intro t h; simp [isT] at h
  | succ n ih =>
    intro t h x vx hx
    obtain ⟨m, hm, h⟩ := isT_cases h
    obtain rfl : n = m := by omega
    rcases h with ⟨k, hk, rfl⟩ | ⟨k, a, hk, rfl, ha⟩ | ⟨a, b, rfl, ha, hb⟩
    · rcases hk with rfl | rfl | rfl | rfl | rfl
      · exact (leV_num (.inl rfl) _ _).2 (Int.le_refl _)
      · exact (leV_num (.inr rfl) _ _).2 (Int.le_refl _)
      · exact (leV_set _ _).2 fun s hs => hs
      · exact (leV_last _ _).2 (by rw [writer_lex, keyW_ok.refl]; decide)
      · exact (leV_clock _ _).2 (under_refl (isC_out (ck_ok vx).1).2.1)
    · rcases hk with rfl | rfl
      · obtain ⟨s, v, rfl, _, _, _, _, h5⟩ := isV_map.1 vx
        exact (leV_map _ _ _).2 fun p hp => ⟨p, hp, rfl, ih a ha _ (h5 _ (List.of_mem_zip hp).2).1 (zip_nn hx.out.2.2.2 hp)⟩
      · obtain ⟨s, v, rfl, _, _, _, _, h5⟩ := isV_cause.1 vx
        exact (leV_cause _ _ _).2 fun p hp => .inr ⟨p, hp, rfl, ih a ha _ (h5 _ (List.of_mem_zip hp).2) (zip_nn hx.out.2.2.2 hp)⟩
    · obtain ⟨u, v, rfl, s1, s2⟩ := isV_pair.1 vx
      exact (leV_pair _ _ _ _).2 ⟨ih a ha u s1 (hx.half 0), ih b hb v s2 (hx.half 1)⟩
end Go.Proofs.YtleejffjnknohaaGreat.J5

namespace Go.Proofs.YtleejffjnknohaaGreat.J5
open C3 (Tk isC isC_out isC_mk Asc ofC underC cmpC mergeC mergeC_nil_left mergeC_nil_right)
open S2 (Tr isT)
open V4 (Va isV botT ApR isT_le shortV)

/-- z is the least that is not less than x, y. -/
structure Lub (t : Tr) (x y z : Va) : Prop where
  is : isV t z = true
  nn : Nn z
  left : leV t x z
  right : leV t y z
  least : ∀ u, isV t u = true → Nn u → leV t x u → leV t y u → leV t z u

theorem zip_parts {M V : Type} : ∀ r : List (M × V), (r.map (·.1)).zip (r.map (·.2)) = r
  | [] => rfl
  | p :: r => by rw [List.map_cons, List.map_cons, List.zip_cons_cons, zip_parts r]

theorem allE_has {M V W : Type} {f : V → V → Option W} : ∀ {l : List (M × V × V)} {r : List (M × W)}, allE f l = some r → ∀ q ∈ l, ∃ w, f q.2.1 q.2.2 = some w
  | [], _, _, q, hq => by cases hq
  | p :: l, r, h, q, hq => by
    rw [allE] at h
    cases hf : f p.2.1 p.2.2 with
    | none => rw [hf] at h; simp at h
    | some v =>
      rw [hf] at h
      cases ha : allE f l with
      | none => rw [ha] at h; simp at h
      | some x =>
        rcases List.mem_cons.1 hq with rfl | hq
        · exact ⟨v, hf⟩
        · exact allE_has ha q hq

/-- There is one that none has seen. -/
theorem top_of {α : Type} {R : α → α → Prop} {P : α → Prop} (ht : ∀ x y z, P x → P y → P z → R x y → R y z → R x z) (hi : ∀ x, ¬ R x x) : ∀ (l : List α) (o : α), P o → (∀ k ∈ l, P k) → ∃ m, (m = o ∨ (m ∈ l ∧ R o m)) ∧ ∀ k ∈ l, ¬ R m k
  | [], o, _, _ => ⟨o, .inl rfl, fun _ h => by cases h⟩
  | k :: l, o, ho, hl => by
    have hk := hl k (by simp)
    have hl' : ∀ j ∈ l, P j := fun j hj => hl j (by simp [hj])
    by_cases h : R o k
    · obtain ⟨m, h1, h2⟩ := top_of ht hi l k hk hl'
      have hm : P m := by rcases h1 with rfl | ⟨h1, _⟩; exact hk; exact hl' m h1
      refine ⟨m, .inr ?_, fun j hj => ?_⟩
      · rcases h1 with rfl | ⟨h1, h3⟩
        · exact ⟨by simp, h⟩
        · exact ⟨by simp [h1], ht _ _ _ ho hk hm h h3⟩
      · rcases List.mem_cons.1 hj with rfl | hj
        · rcases h1 with rfl | ⟨h1, h3⟩
          · exact hi _
          · exact fun h4 => hi _ (ht _ _ _ hk hm hk h3 h4)
        · exact h2 j hj
    · obtain ⟨m, h1, h2⟩ := top_of ht hi l o ho hl'
      have hm : P m := by rcases h1 with rfl | ⟨h1, _⟩; exact ho; exact hl' m h1
      refine ⟨m, ?_, fun j hj => ?_⟩
      · rcases h1 with h1 | ⟨h1, h3⟩
        · exact .inl h1
        · exact .inr ⟨by simp [h1], h3⟩
      · rcases List.mem_cons.1 hj with rfl | hj
        · rcases h1 with rfl | ⟨h1, h3⟩
          · exact h
          · exact fun h4 => h (ht _ _ _ ho hm hk h3 h4)
        · exact h2 j hj

theorem lub_num {k : Int} (hk : k = 1 ∨ k = 2) {x y z : Va} (vx : isV (.mk k []) x = true) (vy : isV (.mk k []) y = true) (hx : Nn x) (hy : Nn y) (h : joinE (.mk k []) x y = some z) : Lub (.mk k []) x y z := by
  rw [joinE, if_neg (by omega), if_neg (by omega), if_neg (by omega)] at h
  obtain rfl := Option.some.inj h
  obtain ⟨p, rfl, h1⟩ := (isV_num hk).1 vx
  obtain ⟨q, rfl, h2⟩ := (isV_num hk).1 vy
  have := hx.out.1
  have := hy.out.1
  simp only [Va.n] at *
  refine ⟨(isV_num hk).2 ⟨_, rfl, fun e => by have := h1 e; have := h2 e; omega⟩, .mk _ _ _ _ _ (by omega) (by decide) (fun _ h => by cases h) (fun _ h => by cases h), (leV_num hk _ _).2 (by simp only [Va.n]; omega), (leV_num hk _ _).2 (by simp only [Va.n]; omega), fun u _ _ h3 h4 => ?_⟩
  rw [leV_num hk] at *
  simp only [Va.n] at *
  omega

theorem lub_set {x y z : Va} (vx : isV (.mk 3 []) x = true) (vy : isV (.mk 3 []) y = true) (h : joinE (.mk 3 []) x y = some z) : Lub (.mk 3 []) x y z := by
  rw [joinE, if_pos rfl] at h
  obtain ⟨s, rfl, a1, a2, a3⟩ := isV_set.1 vx
  obtain ⟨s', rfl, b1, b2, b3⟩ := isV_set.1 vy
  replace h : (if 40 < (R1.bothL s s').length then none else some (Va.mk 0 0 (R1.bothL s s') [] [])) = some z := h
  split at h
  · cases h
  · rename_i hl
    obtain rfl := Option.some.inj h
    refine ⟨isV_set.2 ⟨_, rfl, R1.srt_bothL a1, by omega, ?_⟩, .mk _ _ _ _ _ (by decide) (by decide) (fun _ h => by cases h) (fun _ h => by cases h), (leV_set _ _).2 fun t ht => R1.mem_bothL.2 (.inl ht), (leV_set _ _).2 fun t ht => R1.mem_bothL.2 (.inr ht), fun u _ _ h3 h4 => ?_⟩
    · unfold shortV at *
      refine List.all_eq_true.2 fun t ht => ?_
      rcases R1.mem_bothL.1 ht with h | h
      · exact List.all_eq_true.1 a3 t h
      · exact List.all_eq_true.1 b3 t h
    · rw [leV_set] at *
      intro t ht
      rcases R1.mem_bothL.1 ht with h | h
      · exact h3 t h
      · exact h4 t h

theorem lub_last {x y z : Va} (vx : isV (.mk 6 []) x = true) (vy : isV (.mk 6 []) y = true) (hx : Nn x) (hy : Nn y) (h : joinE (.mk 6 []) x y = some z) : Lub (.mk 6 []) x y z := by
  have form : ∀ {x : Va}, isV (.mk 6 []) x = true → Va.mk x.n x.m x.s [] [] = x := fun {x} h => by
    rcases isV_last.1 h with rfl | ⟨_, _, _, rfl, _⟩ <;> rfl
  rw [joinE, if_neg (by decide), if_pos rfl] at h
  unfold lastE at h
  rw [form vx, form vy] at h
  have refl : ∀ x, leV (.mk 6 []) x x := fun x => (leV_last _ _).2 (by rw [writer_lex, keyW_ok.refl]; decide)
  split at h
  · rename_i hl
    obtain rfl := Option.some.inj h
    exact ⟨vy, hy, (leV_last _ _).2 (by omega), refl _, fun u _ _ _ h4 => h4⟩
  · rename_i hl
    obtain rfl := Option.some.inj h
    refine ⟨vx, hx, refl _, (leV_last _ _).2 ?_, fun u _ _ h3 _ => h3⟩
    rw [writer_lex] at hl ⊢
    rcases Int.lt_or_eq_of_le (show 0 ≤ _ from Int.not_lt.1 hl) with h | h
    · exact Int.le_of_lt (keyW_ok.gt h)
    · rw [keyW_ok.eq h.symm, keyW_ok.refl]; decide

theorem clock_fold {x y : Va} (vx : isV (.mk 7 []) x = true) (vy : isV (.mk 7 []) y = true) : (x.c ++ y.c).foldl mergeC [] = mergeC (ckE x) (ckE y) := by
  rcases isV_clock.1 vx with rfl | ⟨c, rfl, _, _⟩ <;> rcases isV_clock.1 vy with rfl | ⟨d, rfl, _, _⟩ <;> simp [Va.zero, Va.c, ckE, mergeC_nil_left, mergeC_nil_right]

theorem lub_clock {x y z : Va} (vx : isV (.mk 7 []) x = true) (vy : isV (.mk 7 []) y = true) (hx : Nn x) (hy : Nn y) (h : joinE (.mk 7 []) x y = some z) : Lub (.mk 7 []) x y z := by
  rw [joinE, if_neg (by decide), if_neg (by decide), if_pos rfl] at h
  unfold clockE at h
  rw [clock_fold vx vy] at h
  obtain ⟨a1, _, _⟩ := ck_ok vx
  obtain ⟨b1, _, _⟩ := ck_ok vy
  obtain ⟨a1, a2, a3⟩ := isC_out a1
  obtain ⟨b1, b2, b3⟩ := isC_out b1
  have na := hx.ck
  have nb := hy.ck
  have hof := ofC_merge _ _ a2 b2 na nb
  have hasc := merge_asc _ _ a2 b2
  have hz : ckE z = mergeC (ckE x) (ckE y) ∧ isV (.mk 7 []) z = true ∧ Nn z := by
    split at h
    · rename_i h0
      obtain rfl := Option.some.inj h
      exact ⟨h0.symm, isV_clock.2 (.inl rfl), .zero⟩
    · rename_i h0
      split at h
      · cases h
      · rename_i hl
        obtain rfl := Option.some.inj h
        refine ⟨rfl, isV_clock.2 (.inr ⟨_, rfl, isC_mk (by omega) hasc fun t ht => ?_, h0⟩), .mk _ _ _ _ _ (by decide) (by decide) (fun k hk => ?_) (fun _ h => by cases h)⟩
        · rcases mem_merge _ _ ht with h | h
          · exact a3 t h
          · exact b3 t h
        · simp only [List.mem_cons, List.not_mem_nil, or_false] at hk
          subst hk
          intro t ht
          rcases mem_merge _ _ ht with h | h
          · exact na t h
          · exact nb t h
  obtain ⟨z1, z2, z3⟩ := hz
  refine ⟨z2, z3, (leV_clock _ _).2 ?_, (leV_clock _ _).2 ?_, fun u vu nu h3 h4 => ?_⟩
  · rw [z1]; exact under_mk a2 fun q => by rw [hof q]; omega
  · rw [z1]; exact under_mk b2 fun q => by rw [hof q]; omega
  · rw [leV_clock] at *
    rw [z1]
    refine under_mk hasc fun q => ?_
    rw [hof q]
    have := under_of h3 nu.ck q
    have := under_of h4 nu.ck q
    omega

/-- What comes of what stands at each mark. -/
theorem tog_out {M : Type} {f : Va → Va → Option Va} {l : List (M × Va × Va)} {r : List (M × Va)} (h : togE f l = some r) : l.length ≤ 40 ∧ allE f l = some r := by
  unfold togE at h
  split at h
  · cases h
  · exact ⟨by omega, h⟩

theorem lub_map {a : Tr} {n : Nat} (hn : n ≤ 16) (ha : isT n a = true)
    (ih : ∀ x y z, OkV a x → OkV a y → (isV a x = true ∨ isV a y = true) → Nn x → Nn y → joinE a x y = some z → Lub a x y z) {x y z : Va} (vx : isV (.mk 4 [a]) x = true) (vy : isV (.mk 4 [a]) y = true) (hx : Nn x) (hy : Nn y) (h : joinE (.mk 4 [a]) x y = some z) : Lub (.mk 4 [a]) x y z := by
  rw [joinE, if_pos rfl] at h
  unfold mapE at h
  obtain ⟨s, v, rfl, a1, a2, a3, a4, a5⟩ := isV_map.1 vx
  obtain ⟨s', v', rfl, b1, b2, b3, b4, b5⟩ := isV_map.1 vy
  simp only [Va.s, Va.v] at h
  obtain ⟨r, hr, rfl⟩ := Option.map_eq_some_iff.1 h
  obtain ⟨h40, hall⟩ := tog_out hr
  have ux := srt_up a1 a2
  have uy := srt_up b1 b2
  have hmem := mem_mix (z := Va.zero) cmpS_ok _ _ ux uy
  have hmk := togE_marks' hall
  have hup : Up cmpS r := up_of_marks hmk (mix_up (z := Va.zero) cmpS_ok _ _ ux uy)
  have nx := hx.out.2.2.2
  have ny := hy.out.2.2.2
  simp only [Va.v] at nx ny
  -- what stands at a mark
  have part : ∀ q ∈ mix cmpS Va.zero (s.zip v) (s'.zip v'), ∀ w, joinE a q.2.1 q.2.2 = some w → Lub a q.2.1 q.2.2 w ∧ w ≠ botT a ∧ (q.1 ∈ s ∨ q.1 ∈ s') := fun q hq w hw => by
    have bot : ∀ {p w : Va}, isV a p = true → p ≠ botT a → Nn p → leV a p w → w ≠ botT a := fun vp hp np hl e => by
      subst e
      exact hp (leV_antisymm n a ha _ _ vp (isV_bot n a hn ha) np (Nn.bot n a hn ha) hl (leV_bot n a hn ha _ np))
    rcases (hmem q).1 hq with ⟨h1, h2⟩ | ⟨h1, _, h2⟩ | ⟨_, h1, h2⟩
    · have o1 := List.of_mem_zip h1
      have o2 := List.of_mem_zip h2
      have L := ih _ _ _ (.inl (a5 _ o1.2).1) (.inl (b5 _ o2.2).1) (.inl (a5 _ o1.2).1) (nx _ o1.2) (ny _ o2.2) hw
      exact ⟨L, bot (a5 _ o1.2).1 (a5 _ o1.2).2 (nx _ o1.2) L.left, .inl o1.1⟩
    · have o1 := List.of_mem_zip h1
      have L := ih _ _ _ (.inl (a5 _ o1.2).1) (.inr h2) (.inl (a5 _ o1.2).1) (nx _ o1.2) (by rw [h2]; exact .zero) hw
      exact ⟨L, bot (a5 _ o1.2).1 (a5 _ o1.2).2 (nx _ o1.2) L.left, .inl o1.1⟩
    · have o2 := List.of_mem_zip h2
      have L := ih _ _ _ (.inr h1) (.inl (b5 _ o2.2).1) (.inr (b5 _ o2.2).1) (by rw [h1]; exact .zero) (ny _ o2.2) hw
      exact ⟨L, bot (b5 _ o2.2).1 (b5 _ o2.2).2 (ny _ o2.2) L.right, .inr o2.1⟩
  have rel : ∀ p ∈ r, ∃ q ∈ mix cmpS Va.zero (s.zip v) (s'.zip v'), q.1 = p.1 ∧ joinE a q.2.1 q.2.2 = some p.2 := fun p hp => (mem_allE hall p).1 hp
  refine ⟨isV_map.2 ⟨_, _, rfl, ?_, by simp, ?_, ?_, ?_⟩, .mk _ _ _ _ _ (by decide) (by decide) (fun _ h => by cases h) ?_, (leV_map _ _ _).2 ?_, (leV_map _ _ _).2 ?_, fun u vu nu h3 h4 => (leV_map _ _ _).2 ?_⟩
  · refine ((List.pairwise_map (R := fun x y => cmpS x y < 0) (f := fun p : Str × Va => p.1)).2 hup).imp fun {x y} h => ?_
    unfold cmpS at h
    by_cases h1 : x < y
    · exact h1
    · rw [if_neg h1] at h
      split at h <;> omega
  · rw [List.length_map, allE_len hall]; exact h40
  · unfold shortV at *
    refine List.all_eq_true.2 fun t ht => ?_
    obtain ⟨p, hp, rfl⟩ := List.mem_map.1 ht
    obtain ⟨q, hq, e, hw⟩ := rel p hp
    rw [← e]
    rcases (part q hq _ hw).2.2 with h | h
    · exact List.all_eq_true.1 a4 _ h
    · exact List.all_eq_true.1 b4 _ h
  · intro w hw
    obtain ⟨p, hp, rfl⟩ := List.mem_map.1 hw
    obtain ⟨q, hq, _, hw⟩ := rel p hp
    exact ⟨(part q hq _ hw).1.is, (part q hq _ hw).2.1⟩
  · intro w hw
    obtain ⟨p, hp, rfl⟩ := List.mem_map.1 hw
    obtain ⟨q, hq, _, hw⟩ := rel p hp
    exact (part q hq _ hw).1.nn
  · intro p hp
    simp only [Va.s, Va.v] at hp ⊢
    rw [zip_parts]
    obtain ⟨q, hq, e, e2⟩ : ∃ q ∈ mix cmpS Va.zero (s.zip v) (s'.zip v'), q.1 = p.1 ∧ q.2.1 = p.2 := by
      by_cases h : ∃ q ∈ s'.zip v', q.1 = p.1
      · obtain ⟨q, hq, e⟩ := h
        exact ⟨(p.1, p.2, q.2), (hmem _).2 (.inl ⟨hp, by rw [← e]; exact hq⟩), rfl, rfl⟩
      · exact ⟨(p.1, p.2, Va.zero), (hmem _).2 (.inr (.inl ⟨hp, fun q hq e => h ⟨q, hq, e⟩, rfl⟩)), rfl, rfl⟩
    obtain ⟨w, hw⟩ := allE_has hall q hq
    refine ⟨(q.1, w), (mem_allE hall _).2 ⟨q, hq, rfl, hw⟩, e, ?_⟩
    rw [← e2]; exact (part q hq w hw).1.left
  · intro p hp
    simp only [Va.s, Va.v] at hp ⊢
    rw [zip_parts]
    obtain ⟨q, hq, e, e2⟩ : ∃ q ∈ mix cmpS Va.zero (s.zip v) (s'.zip v'), q.1 = p.1 ∧ q.2.2 = p.2 := by
      by_cases h : ∃ q ∈ s.zip v, q.1 = p.1
      · obtain ⟨q, hq, e⟩ := h
        exact ⟨(p.1, q.2, p.2), (hmem _).2 (.inl ⟨by rw [← e]; exact hq, hp⟩), rfl, rfl⟩
      · exact ⟨(p.1, Va.zero, p.2), (hmem _).2 (.inr (.inr ⟨fun q hq e => h ⟨q, hq, e⟩, rfl, hp⟩)), rfl, rfl⟩
    obtain ⟨w, hw⟩ := allE_has hall q hq
    refine ⟨(q.1, w), (mem_allE hall _).2 ⟨q, hq, rfl, hw⟩, e, ?_⟩
    rw [← e2]; exact (part q hq w hw).1.right
  · obtain ⟨su, vu', rfl, u1, u2, u3, u4, u5⟩ := isV_map.1 vu
    have nu' := nu.out.2.2.2
    simp only [Va.v] at nu'
    rw [leV_map] at h3 h4
    intro p hp
    simp only [Va.s, Va.v] at hp ⊢
    rw [zip_parts] at hp
    obtain ⟨q, hq, e, hw⟩ := rel p hp
    have L := (part q hq _ hw).1
    rcases (hmem q).1 hq with ⟨i1, i2⟩ | ⟨i1, _, i2⟩ | ⟨_, i1, i2⟩
    · obtain ⟨t1, ht1, e1, l1⟩ := h3 _ i1
      obtain ⟨t2, ht2, e2, l2⟩ := h4 _ i2
      simp only [Va.s, Va.v] at ht1 ht2
      obtain rfl := up_one cmpS_ok (srt_up u1 u2) ht1 ht2 (e1.trans e2.symm)
      exact ⟨t1, ht1, e1.trans e, L.least _ (u5 _ (List.of_mem_zip ht1).2).1 (nu' _ (List.of_mem_zip ht1).2) l1 l2⟩
    · obtain ⟨t1, ht1, e1, l1⟩ := h3 _ i1
      simp only [Va.s, Va.v] at ht1
      exact ⟨t1, ht1, e1.trans e, L.least _ (u5 _ (List.of_mem_zip ht1).2).1 (nu' _ (List.of_mem_zip ht1).2) l1 (by rw [i2]; exact leV_zero n a ha _ (nu' _ (List.of_mem_zip ht1).2))⟩
    · obtain ⟨t1, ht1, e1, l1⟩ := h4 _ i2
      simp only [Va.s, Va.v] at ht1
      exact ⟨t1, ht1, e1.trans e, L.least _ (u5 _ (List.of_mem_zip ht1).2).1 (nu' _ (List.of_mem_zip ht1).2) (by rw [i1]; exact leV_zero n a ha _ (nu' _ (List.of_mem_zip ht1).2)) l1⟩

theorem lub_cause {a : Tr} {n : Nat} (ha : isT n a = true)
    (ih : ∀ x y z, OkV a x → OkV a y → (isV a x = true ∨ isV a y = true) → Nn x → Nn y → joinE a x y = some z → Lub a x y z) {x y z : Va} (vx : isV (.mk 8 [a]) x = true) (vy : isV (.mk 8 [a]) y = true) (hx : Nn x) (hy : Nn y) (h : joinE (.mk 8 [a]) x y = some z) : Lub (.mk 8 [a]) x y z := by
  rw [joinE, if_neg (by decide)] at h
  unfold causeE at h
  obtain ⟨s, v, rfl, a2, a3, a1, a4, a5⟩ := isV_cause.1 vx
  obtain ⟨s', v', rfl, b2, b3, b1, b4, b5⟩ := isV_cause.1 vy
  simp only [Va.c, Va.v] at h
  obtain ⟨r, hr, rfl⟩ := Option.map_eq_some_iff.1 h
  obtain ⟨h40, hall⟩ := tog_out hr
  have ux := apr_up a1 a2
  have uy := apr_up b1 b2
  have hmem := mem_mix (z := Va.zero) cmpT_ok _ _ ux uy
  have hmk := togE_marks' hall
  have hup : Up cmpT r := up_of_marks hmk ((mix_up (z := Va.zero) cmpT_ok _ _ ux uy).filter _)
  have nx := hx.out.2.2.2
  have ny := hy.out.2.2.2
  have kx := hx.out.2.2.1
  have ky := hy.out.2.2.1
  simp only [Va.v, Va.c] at nx ny kx ky
  have kc : ∀ k ∈ s ++ s', isC k = true ∧ NnC k := fun k hk => by
    rcases List.mem_append.1 hk with h | h
    · exact ⟨a4 k h, kx k h⟩
    · exact ⟨b4 k h, ky k h⟩
  have unseen : ∀ {k : List Tk}, (!seenE k (s ++ s')) = true → ∀ o ∈ s ++ s', cmpC k o ≠ -1 := fun {k} h o ho e => by
    unfold seenE at h
    simp only [Bool.not_eq_true', List.any_eq_false, decide_eq_true_eq] at h
    exact h o ho e
  have toseen : ∀ {k : List Tk}, (∀ o ∈ s ++ s', cmpC k o ≠ -1) → (!seenE k (s ++ s')) = true := fun {k} h => by
    unfold seenE
    simp only [Bool.not_eq_true', List.any_eq_false, decide_eq_true_eq]
    exact h
  -- what stands at a mark
  have part : ∀ q ∈ mix cmpT Va.zero (s.zip v) (s'.zip v'), (∀ w, joinE a q.2.1 q.2.2 = some w → Lub a q.2.1 q.2.2 w) ∧ q.1 ∈ s ++ s' := fun q hq => by
    rcases (hmem q).1 hq with ⟨h1, h2⟩ | ⟨h1, _, h2⟩ | ⟨_, h1, h2⟩
    · have o1 := List.of_mem_zip h1
      have o2 := List.of_mem_zip h2
      exact ⟨fun w hw => ih _ _ _ (.inl (a5 _ o1.2)) (.inl (b5 _ o2.2)) (.inl (a5 _ o1.2)) (nx _ o1.2) (ny _ o2.2) hw, List.mem_append.2 (.inl o1.1)⟩
    · have o1 := List.of_mem_zip h1
      exact ⟨fun w hw => ih _ _ _ (.inl (a5 _ o1.2)) (.inr h2) (.inl (a5 _ o1.2)) (nx _ o1.2) (by rw [h2]; exact .zero) hw, List.mem_append.2 (.inl o1.1)⟩
    · have o2 := List.of_mem_zip h2
      exact ⟨fun w hw => ih _ _ _ (.inr h1) (.inl (b5 _ o2.2)) (.inr (b5 _ o2.2)) (by rw [h1]; exact .zero) (ny _ o2.2) hw, List.mem_append.2 (.inr o2.1)⟩
  have rel : ∀ p ∈ r, ∃ q ∈ mix cmpT Va.zero (s.zip v) (s'.zip v'), q.1 = p.1 ∧ joinE a q.2.1 q.2.2 = some p.2 ∧ ∀ o ∈ s ++ s', cmpC p.1 o ≠ -1 := fun p hp => by
    obtain ⟨q, hq, e, hw⟩ := (mem_allE hall p).1 hp
    obtain ⟨h1, h2⟩ := List.mem_filter.1 hq
    exact ⟨q, h1, e, hw, e ▸ unseen h2⟩
  have mark : ∀ p ∈ r, p.1 ∈ s ++ s' := fun p hp => by
    obtain ⟨q, hq, e, _⟩ := rel p hp
    rw [← e]; exact (part q hq).2
  -- each mark is there
  have lft : ∀ p ∈ s.zip v, ∃ q ∈ mix cmpT Va.zero (s.zip v) (s'.zip v'), q.1 = p.1 ∧ q.2.1 = p.2 := fun p hp => by
    by_cases h : ∃ q ∈ s'.zip v', q.1 = p.1
    · obtain ⟨q, hq, e⟩ := h
      exact ⟨(p.1, p.2, q.2), (hmem _).2 (.inl ⟨hp, by rw [← e]; exact hq⟩), rfl, rfl⟩
    · exact ⟨(p.1, p.2, Va.zero), (hmem _).2 (.inr (.inl ⟨hp, fun q hq e => h ⟨q, hq, e⟩, rfl⟩)), rfl, rfl⟩
  have rgt : ∀ p ∈ s'.zip v', ∃ q ∈ mix cmpT Va.zero (s.zip v) (s'.zip v'), q.1 = p.1 ∧ q.2.2 = p.2 := fun p hp => by
    by_cases h : ∃ q ∈ s.zip v, q.1 = p.1
    · obtain ⟨q, hq, e⟩ := h
      exact ⟨(p.1, q.2, p.2), (hmem _).2 (.inl ⟨by rw [← e]; exact hq, hp⟩), rfl, rfl⟩
    · exact ⟨(p.1, Va.zero, p.2), (hmem _).2 (.inr (.inr ⟨fun q hq e => h ⟨q, hq, e⟩, rfl, hp⟩)), rfl, rfl⟩
  have stays : ∀ q ∈ mix cmpT Va.zero (s.zip v) (s'.zip v'), (∀ o ∈ s ++ s', cmpC q.1 o ≠ -1) → ∃ w, (q.1, w) ∈ r ∧ joinE a q.2.1 q.2.2 = some w := fun q hq hs => by
    have hf := List.mem_filter (p := fun p : List Tk × Va × Va => !seenE p.1 (s ++ s')) |>.2 ⟨hq, toseen hs⟩
    obtain ⟨w, hw⟩ := allE_has hall q hf
    exact ⟨w, (mem_allE hall _).2 ⟨q, hf, rfl, hw⟩, hw⟩
  have memzip : ∀ {s : List (List Tk)} {v : List Va}, s.length = v.length → ∀ k ∈ s, ∃ p ∈ s.zip v, p.1 = k := fun {s v} hl k hk => by
    have : k ∈ (s.zip v).map (·.1) := by rw [List.map_fst_zip (by omega)]; exact hk
    obtain ⟨p, hp, e⟩ := List.mem_map.1 this
    exact ⟨p, hp, e⟩
  have above : ∀ k ∈ s ++ s', (∃ o ∈ s ++ s', cmpC k o = -1) → ∃ p ∈ r, cmpC k p.1 = -1 := fun k hk => by
    rintro ⟨o, ho, hko⟩
    obtain ⟨m, h1, h2⟩ := top_of (R := fun a b => cmpC a b = -1) (P := fun k => k ∈ s ++ s') (fun x y z hx hy hz h1 h2 => cmpC_trans h1 h2 (kc y hy).2 (kc z hz).2) cmpC_irrefl (s ++ s') o ho fun _ h => h
    have hm : m ∈ s ++ s' := by rcases h1 with rfl | ⟨h1, _⟩; exact ho; exact h1
    have hkm : cmpC k m = -1 := by
      rcases h1 with rfl | ⟨_, h1⟩
      · exact hko
      · exact cmpC_trans hko h1 (kc o ho).2 (kc m hm).2
    obtain ⟨q, hq, e⟩ : ∃ q ∈ mix cmpT Va.zero (s.zip v) (s'.zip v'), q.1 = m := by
      rcases List.mem_append.1 hm with h | h
      · obtain ⟨p, hp, e⟩ := memzip a2 m h
        obtain ⟨q, hq, e2, _⟩ := lft p hp
        exact ⟨q, hq, e2.trans e⟩
      · obtain ⟨p, hp, e⟩ := memzip b2 m h
        obtain ⟨q, hq, e2, _⟩ := rgt p hp
        exact ⟨q, hq, e2.trans e⟩
    obtain ⟨w, hw, _⟩ := stays q hq (by rw [e]; exact h2)
    exact ⟨_, hw, by rw [e]; exact hkm⟩
  refine ⟨isV_cause.2 ⟨_, _, rfl, by simp, ?_, ?_, ?_, ?_⟩, .mk _ _ _ _ _ (by decide) (by decide) ?_ ?_, (leV_cause _ _ _).2 ?_, (leV_cause _ _ _).2 ?_, fun u vu nu h3 h4 => (leV_cause _ _ _).2 ?_⟩
  · rw [List.length_map, allE_len hall]; exact h40
  · refine List.pairwise_map.2 (List.Pairwise.imp_of_mem (fun {p q} hp hq h => ?_) hup)
    refine ⟨cmpT_lt.1 h, ?_⟩
    obtain ⟨_, _, _, _, p2⟩ := rel p hp
    obtain ⟨_, _, _, _, q2⟩ := rel q hq
    have c1 := p2 q.1 (mark q hq)
    have c2 := q2 p.1 (mark p hp)
    have hne : p.1 ≠ q.1 := cmpT_ok.ne h
    have c0 : ¬ (underC p.1 q.1 = true ∧ underC q.1 p.1 = true) := fun ⟨h1, h2⟩ =>
      hne (clock_ext (kc _ (mark p hp)).1 (kc _ (mark q hq)).1 fun t => Int.le_antisymm (under_of h1 (kc _ (mark q hq)).2 t) (under_of h2 (kc _ (mark p hp)).2 t))
    unfold cmpC at c1 c2 ⊢
    cases h1 : underC p.1 q.1 <;> cases h2 : underC q.1 p.1 <;> rw [h1, h2] at c0 c1 <;> rw [h1, h2] at c2 <;> simp [C3.cmpB] at c0 c1 c2 ⊢
  · intro k hk
    obtain ⟨p, hp, rfl⟩ := List.mem_map.1 hk
    exact (kc _ (mark p hp)).1
  · intro w hw
    obtain ⟨p, hp, rfl⟩ := List.mem_map.1 hw
    obtain ⟨q, hq, _, hw, _⟩ := rel p hp
    exact ((part q hq).1 _ hw).is
  · intro k hk
    obtain ⟨p, hp, rfl⟩ := List.mem_map.1 hk
    exact (kc _ (mark p hp)).2
  · intro w hw
    obtain ⟨p, hp, rfl⟩ := List.mem_map.1 hw
    obtain ⟨q, hq, _, hw, _⟩ := rel p hp
    exact ((part q hq).1 _ hw).nn
  · intro p hp
    simp only [Va.c, Va.v] at hp ⊢
    rw [zip_parts]
    obtain ⟨q, hq, e, e2⟩ := lft p hp
    by_cases hs : ∃ o ∈ s ++ s', cmpC p.1 o = -1
    · exact .inl (above p.1 (e ▸ (part q hq).2) hs)
    · obtain ⟨w, hw, hj⟩ := stays q hq (by rw [e]; exact fun o ho h => hs ⟨o, ho, h⟩)
      exact .inr ⟨_, hw, e, by rw [← e2]; exact ((part q hq).1 w hj).left⟩
  · intro p hp
    simp only [Va.c, Va.v] at hp ⊢
    rw [zip_parts]
    obtain ⟨q, hq, e, e2⟩ := rgt p hp
    by_cases hs : ∃ o ∈ s ++ s', cmpC p.1 o = -1
    · exact .inl (above p.1 (e ▸ (part q hq).2) hs)
    · obtain ⟨w, hw, hj⟩ := stays q hq (by rw [e]; exact fun o ho h => hs ⟨o, ho, h⟩)
      exact .inr ⟨_, hw, e, by rw [← e2]; exact ((part q hq).1 w hj).right⟩
  · obtain ⟨su, vu', rfl, u2, u3, u1, u4, u5⟩ := isV_cause.1 vu
    have nu' := nu.out.2.2.2
    simp only [Va.v] at nu'
    rw [leV_cause] at h3 h4
    intro p hp
    simp only [Va.c, Va.v] at hp ⊢
    rw [zip_parts] at hp
    obtain ⟨q, hq, e, hw, _⟩ := rel p hp
    have L := (part q hq).1 _ hw
    rw [← e]
    rcases (hmem q).1 hq with ⟨i1, i2⟩ | ⟨i1, _, i2⟩ | ⟨_, i1, i2⟩
    · rcases h3 _ i1 with h | ⟨t1, ht1, e1, l1⟩
      · exact .inl h
      · rcases h4 _ i2 with h | ⟨t2, ht2, e2, l2⟩
        · exact .inl h
        · simp only [Va.c, Va.v] at ht1 ht2
          obtain rfl := up_one cmpT_ok (apr_up u1 u2) ht1 ht2 (e1.trans e2.symm)
          exact .inr ⟨t1, ht1, e1, L.least _ (u5 _ (List.of_mem_zip ht1).2) (nu' _ (List.of_mem_zip ht1).2) l1 l2⟩
    · rcases h3 _ i1 with h | ⟨t1, ht1, e1, l1⟩
      · exact .inl h
      · simp only [Va.c, Va.v] at ht1
        exact .inr ⟨t1, ht1, e1, L.least _ (u5 _ (List.of_mem_zip ht1).2) (nu' _ (List.of_mem_zip ht1).2) l1 (by rw [i2]; exact leV_zero n a ha _ (nu' _ (List.of_mem_zip ht1).2))⟩
    · rcases h4 _ i2 with h | ⟨t1, ht1, e1, l1⟩
      · exact .inl h
      · simp only [Va.c, Va.v] at ht1
        exact .inr ⟨t1, ht1, e1, L.least _ (u5 _ (List.of_mem_zip ht1).2) (nu' _ (List.of_mem_zip ht1).2) (by rw [i1]; exact leV_zero n a ha _ (nu' _ (List.of_mem_zip ht1).2)) l1⟩
/-- Both together: the least that is not less than either. -/
theorem lub_of : ∀ (n : Nat) (t : Tr), n ≤ 16 → isT n t = true → ∀ x y z, OkV t x → OkV t y → (isV t x = true ∨ isV t y = true) → Nn x → Nn y → joinE t x y = some z → Lub t x y z := by
  intro n
  induction n with
  | zero => intro t _ h; simp [isT] at h
  | succ n ih =>
    intro t hn ht x y z ox oy one hx hy h
    obtain ⟨m, hm, hc⟩ := isT_cases ht
    obtain rfl : n = m := by omega
    rcases hc with ⟨k, hk, rfl⟩ | ⟨k, a, hk, rfl, ha⟩ | ⟨a, b, rfl, ha, hb⟩
    · have h5 : (Tr.mk k []).k ≠ 5 := by simp only [Tr.k]; omega
      have all : ∀ {x}, OkV (.mk k []) x → isV (.mk k []) x = true := fun {x} o => o.elim id fun e => e ▸ isV_zero hn ht h5
      have vx := all ox
      have vy := all oy
      rcases hk with rfl | rfl | rfl | rfl | rfl
      · exact lub_num (.inl rfl) vx vy hx hy h
      · exact lub_num (.inr rfl) vx vy hx hy h
      · exact lub_set vx vy h
      · exact lub_last vx vy hx hy h
      · exact lub_clock vx vy hx hy h
    · have h5 : (Tr.mk k [a]).k ≠ 5 := by simp only [Tr.k]; omega
      have all : ∀ {x}, OkV (.mk k [a]) x → isV (.mk k [a]) x = true := fun {x} o => o.elim id fun e => e ▸ isV_zero hn ht h5
      have vx := all ox
      have vy := all oy
      rcases hk with rfl | rfl
      · exact lub_map (by omega) ha (ih a (by omega) ha) vx vy hx hy h
      · exact lub_cause ha (ih a (by omega) ha) vx vy hx hy h
    · rw [joinE] at h
      unfold pairE at h
      obtain ⟨u, hu, h⟩ := Option.bind_eq_some_iff.1 h
      obtain ⟨v, hv, rfl⟩ := Option.map_eq_some_iff.1 h
      have side : ∀ {x}, OkV (.mk 5 [a, b]) x → (OkV a (halfE x 0) ∧ OkV b (halfE x 1)) ∧ (isV (.mk 5 [a, b]) x = true → isV a (halfE x 0) = true ∧ isV b (halfE x 1) = true) := fun {x} o => by
        have f : isV (.mk 5 [a, b]) x = true → isV a (halfE x 0) = true ∧ isV b (halfE x 1) = true := fun h => by
          obtain ⟨p, q, rfl, h1, h2⟩ := isV_pair.1 h
          exact ⟨h1, h2⟩
        refine ⟨?_, f⟩
        rcases o with o | rfl
        · exact ⟨.inl (f o).1, .inl (f o).2⟩
        · exact ⟨.inr rfl, .inr rfl⟩
      have L := ih a (by omega) ha _ _ _ (side ox).1.1 (side oy).1.1 (one.imp (fun h => ((side ox).2 h).1) (fun h => ((side oy).2 h).1)) (hx.half 0) (hy.half 0) hu
      have R := ih b (by omega) hb _ _ _ (side ox).1.2 (side oy).1.2 (one.imp (fun h => ((side ox).2 h).2) (fun h => ((side oy).2 h).2)) (hx.half 1) (hy.half 1) hv
      refine ⟨isV_pair.2 ⟨_, _, rfl, L.is, R.is⟩, .mk _ _ _ _ _ (by decide) (by decide) (fun _ h => by cases h) fun w hw => ?_, (leV_pair _ _ _ _).2 ⟨L.left, R.left⟩, (leV_pair _ _ _ _).2 ⟨L.right, R.right⟩, fun w vw nw h3 h4 => ?_⟩
      · simp only [List.mem_cons, List.not_mem_nil, or_false] at hw
        rcases hw with rfl | rfl
        · exact L.nn
        · exact R.nn
      · rw [leV_pair] at h3 h4 ⊢
        obtain ⟨p, q, rfl, w1, w2⟩ := isV_pair.1 vw
        exact ⟨L.least _ w1 (nw.half 0) h3.1 h4.1, R.least _ w2 (nw.half 1) h3.2 h4.2⟩
end Go.Proofs.YtleejffjnknohaaGreat.J5

namespace Go.Proofs.YtleejffjnknohaaGreat.J5
open S2 (Tr isT)
open V4 (Va Vl Ck isV botT)

theorem stepE_ok {t : Tr} {x v z : Va} (h : stepE t x v = .ok z) : isV t x = true ∧ isV t v = true ∧ joinE t x v = some z := by
  unfold stepE at h
  split at h
  · rename_i hv
    cases hj : joinE t x v with
    | none => rw [hj] at h; cases h
    | some w => rw [hj] at h; cases h; exact ⟨hv.1, hv.2, rfl⟩
  · cases h
theorem stepE_err {t : Tr} {x v : Va} {e : Int} (h : stepE t x v = .error e) : (e = 13 ∧ isV t x = true ∧ isV t v = true ∧ joinE t x v = none) ∨ (e = 14 ∧ ¬ (isV t x = true ∧ isV t v = true)) := by
  unfold stepE at h
  split at h
  · rename_i hv
    cases hj : joinE t x v with
    | none => rw [hj] at h; cases h; exact .inl ⟨rfl, hv.1, hv.2, rfl⟩
    | some w => rw [hj] at h; cases h
  · rename_i hv
    cases h; exact .inr ⟨rfl, hv⟩

theorem fold_lub {t : Tr} (ht : isT 16 t = true) : ∀ (l : List Va) (x z : Va), isV t x = true → Nn x → (∀ v ∈ l, Nn v) → l.foldlM (stepE t) x = .ok z →
    isV t z = true ∧ Nn z ∧ leV t x z ∧ (∀ v ∈ l, isV t v = true ∧ leV t v z) ∧ ∀ u, isV t u = true → Nn u → leV t x u → (∀ v ∈ l, leV t v u) → leV t z u := by
  intro l
  induction l with
  | nil =>
    intro x z vx nx _ h
    cases h
    exact ⟨vx, nx, leV_refl 16 t ht x vx nx, (fun _ h => by cases h), fun u _ _ h _ => h⟩
  | cons v l ih =>
    intro x z vx nx nl h
    rw [foldlM_cons'] at h
    cases hs : stepE t x v with
    | error e => rw [hs] at h; cases h
    | ok y =>
      rw [hs] at h
      obtain ⟨_, vv, hj⟩ := stepE_ok hs
      have nv := nl v (by simp)
      have L := lub_of 16 t (Nat.le_refl _) ht x v y (.inl vx) (.inl vv) (.inl vx) nx nv hj
      obtain ⟨z1, z2, z3, z4, z5⟩ := ih y z L.is L.nn (fun w hw => nl w (by simp [hw])) h
      refine ⟨z1, z2, leV_trans 16 t ht _ _ _ nx L.nn z2 L.left z3, fun w hw => ?_, fun u vu nu h1 h2 => ?_⟩
      · rcases List.mem_cons.1 hw with rfl | hw
        · exact ⟨vv, leV_trans 16 t ht _ _ _ nv L.nn z2 L.right z3⟩
        · exact z4 w hw
      · exact z5 u vu nu (L.least u vu nu h1 (h2 v (by simp))) fun w hw => h2 w (by simp [hw])

theorem allF_same {t : Tr} {l m : List Va} {a b : Va} (ha : allF t l = .ok a) (hb : allF t m = .ok b) (nl : ∀ v ∈ l, Nn v) (hm : ∀ v, v ∈ l ↔ v ∈ m) : a = b := by
  unfold allF at ha hb
  split at ha
  · rename_i ht
    rw [if_pos ht] at hb
    have vb := isV_bot 16 t (Nat.le_refl _) ht
    have nb := Nn.bot 16 t (Nat.le_refl _) ht
    obtain ⟨a1, a2, a3, a4, a5⟩ := fold_lub ht l _ a vb nb nl ha
    obtain ⟨b1, b2, b3, b4, b5⟩ := fold_lub ht m _ b vb nb (fun v hv => nl v ((hm v).2 hv)) hb
    exact leV_antisymm 16 t ht a b a1 b1 a2 b2 (a5 b b1 b2 b3 fun v hv => (b4 v ((hm v).1 hv)).2) (b5 a a1 a2 a3 fun v hv => (a4 v ((hm v).2 hv)).2)
  · cases ha

/-- What isn't of the schema is told, or it was too large ahead of it. -/
theorem fold_err {t : Tr} (ht : isT 16 t = true) : ∀ (l : List Va) (x : Va) (e : Int), isV t x = true → Nn x → (∀ v ∈ l, Nn v) → l.foldlM (stepE t) x = .error e → e = 13 ∨ (e = 14 ∧ ∃ v ∈ l, isV t v = false) := by
  intro l
  induction l with
  | nil => intro x e _ _ _ h; cases h
  | cons v l ih =>
    intro x e vx nx nl h
    rw [foldlM_cons'] at h
    cases hs : stepE t x v with
    | error e' =>
      rw [hs] at h
      cases h
      rcases stepE_err hs with ⟨h1, _⟩ | ⟨h1, h2⟩
      · exact .inl h1
      · refine .inr ⟨h1, v, by simp, ?_⟩
        cases hv : isV t v with
        | false => rfl
        | true => exact absurd ⟨vx, hv⟩ h2
    | ok y =>
      rw [hs] at h
      obtain ⟨_, vv, hj⟩ := stepE_ok hs
      have L := lub_of 16 t (Nat.le_refl _) ht x v y (.inl vx) (.inl vv) (.inl vx) nx (nl v (by simp)) hj
      rcases ih y e L.is L.nn (fun w hw => nl w (by simp [hw])) h with h1 | ⟨h1, w, hw, h2⟩
      · exact .inl h1
      · exact .inr ⟨h1, w, by simp [hw], h2⟩

/-- An error of one of them, and the other is told: then that error is that it was too large. -/
theorem allF_err {t : Tr} {l m : List Va} {b : Va} {e : Int} (ha : allF t l = .error e) (hb : allF t m = .ok b) (nl : ∀ v ∈ l, Nn v) (hm : ∀ v, v ∈ l ↔ v ∈ m) : e = 13 := by
  unfold allF at ha hb
  split at hb
  · rename_i ht
    rw [if_pos ht] at ha
    have vb := isV_bot 16 t (Nat.le_refl _) ht
    have nb := Nn.bot 16 t (Nat.le_refl _) ht
    obtain ⟨_, _, _, b4, _⟩ := fold_lub ht m _ b vb nb (fun v hv => nl v ((hm v).2 hv)) hb
    rcases fold_err ht l _ e vb nb nl ha with h | ⟨_, v, hv, h⟩
    · exact h
    · rw [(b4 v ((hm v).1 hv)).1] at h; cases h
  · cases hb
theorem allF_num {t : Tr} {l : List Va} {e : Int} (ha : allF t l = .error e) (nl : ∀ v ∈ l, Nn v) : e = 13 ∨ e = 14 := by
  unfold allF at ha
  split at ha
  · rename_i ht
    exact (fold_err ht l _ e (isV_bot 16 t (Nat.le_refl _) ht) (Nn.bot 16 t (Nat.le_refl _) ht) nl ha).imp id fun h => h.1
  · cases ha; exact .inr rfl

theorem Nn.of_inp {P : Nat → Prop} {w : World} {x : Vl} (h : x.Inp P w) : Nn x.er := by
  induction h with
  | mk n m sA sc ss cA cc cs vA vc vs h1 h2 _ _ _ _ _ h8 _ _ _ ih =>
    rw [V4.er_mk]
    refine .mk _ _ _ _ _ h1.1 h2.1 (fun k hk => ?_) fun y hy => ?_
    · obtain ⟨c, hc, rfl⟩ := List.mem_map.1 hk
      exact fun t ht => ((h8 c hc).nok t ht).1
    · obtain ⟨z, hz, rfl⟩ := List.mem_map.1 hy
      exact ih z hz
end Go.Proofs.YtleejffjnknohaaGreat.J5

namespace Go.Proofs.YtleejffjnknohaaGreat.J5
open Go.RowKit Go.Shelf Go.Extern.Stop Go.Stop Go.Extern

set_option maxHeartbeats 400000 in
theorem is_nil (m : Int) (w : World) : Calls Tryz.prog 13 #[.nilIface, errV m] w (RetV w (.bool false)) := by
  have hn := run_eql_iface_nil_left (P := Tryz.prog) w 39 (.int .i64 m) Tryz.underlying35
  unfold errV
  go_enter Tryz.func13, Tryz.ntmps13
  go_wp2
  go_ret
  exact ⟨rfl, Below.refl _ _⟩
end Go.Proofs.YtleejffjnknohaaGreat.J5

namespace Go.Proofs.YtleejffjnknohaaGreat.J5
open Go.RowKit Go.Shelf
open C3 (Tk In belAl allocB)
open S2 (Sc Tr isT)
open V4 (Va Vl Ck isV botT LiesC cellsV val_mk er_mk takeH)

theorem make_two (W : World) : (Instr.makeSlice 25 (.int .i64 2) (.int .i64 2)).run Tryz.prog W = .ok (.slice (some ⟨W.heap.size, 0, none⟩) 2 2) (W.alloc (.cells #[.int .u64 0, .int .u64 0, .slice none 0 0, .slice none 0 0, .slice none 0 0, .int .u64 0, .int .u64 0, .slice none 0 0, .slice none 0 0, .slice none 0 0] 32)) := by kernel_rfl

/-- What a round of it leaves: a value in a box of its own, or the error. -/
def MidP (U : World) (o : Option Va) (s11 s12 : Value) (wx : World) : Prop :=
  ∃ (pb : Nat) (z : Vl), s11 = .pointer (some ⟨pb, 0, none⟩) ∧ U.heap.size ≤ pb ∧ Blk wx pb 32 #[.int .u64 z.n, .int .u64 z.m, z.s1, z.c1, z.v1] ∧ z.Inp (fun b => U.heap.size ≤ b ∧ b < wx.heap.size ∧ b ≠ pb) wx ∧ Below U.heap.size U wx ∧ ((o = none ∧ s12 = errV 13) ∨ (o = some z.er ∧ s12 = .nilIface))
theorem midP_mk {U T : World} {o : Option Va} {ev : Value} {pb : Nat} {z : Vl} {M : Nat} {z0 z1 z2 z3 z4 : Value} (hq : Blk T pb 32 #[z0, z1, z2, z3, z4]) (hpb : U.heap.size ≤ pb) (hz : z.Inp (fun b => M ≤ b ∧ b < T.heap.size ∧ b ≠ pb) T) (hM : U.heap.size ≤ M) (hb : Below U.heap.size U T) (hc : (o = some z.er ∧ ev = .nilIface) ∨ (o = none ∧ z = vlZ ∧ ev = errV 13)) :
    MidP U o (.pointer (some ⟨pb, 0, none⟩)) ev (set5 T pb (.int .u64 z.n) (.int .u64 z.m) z.s1 z.c1 z.v1) := by
  refine ⟨pb, z, rfl, hpb, set5_blk hq, (hz.keep fun b hP => set5_low hP.2.2).mono fun b hP => ⟨by have := hP.1; omega, ?_, hP.2.2⟩, set5_bel hb hpb, ?_⟩
  · exact Nat.lt_of_lt_of_le hP.2.1 (Nat.le_of_eq set5_size.symm)
  · rcases hc with ⟨h1, h2⟩ | ⟨h1, _, h2⟩
    · exact .inr ⟨h1, h2⟩
    · exact .inl ⟨h1, h2⟩

/-- Five cells from the fifth on. -/
def set5b (W : World) (D : Nat) (v0 v1 v2 v3 v4 : Value) : World := ((((W.setCell ⟨D, 5, none⟩ v0).setCell ⟨D, 6, none⟩ v1).setCell ⟨D, 7, none⟩ v2).setCell ⟨D, 8, none⟩ v3).setCell ⟨D, 9, none⟩ v4
theorem set5b_low {W : World} {D b : Nat} {v0 v1 v2 v3 v4 : Value} (h : b ≠ D) : (set5b W D v0 v1 v2 v3 v4).heap[b]? = W.heap[b]? := by
  unfold set5b
  rw [Below.heap_setCell _ _ _ _ (by simpa using h), Below.heap_setCell _ _ _ _ (by simpa using h), Below.heap_setCell _ _ _ _ (by simpa using h), Below.heap_setCell _ _ _ _ (by simpa using h), Below.heap_setCell _ _ _ _ (by simpa using h)]
theorem set5b_size {W : World} {D : Nat} {v0 v1 v2 v3 v4 : Value} : (set5b W D v0 v1 v2 v3 v4).heap.size = W.heap.size := by unfold set5b; simp
theorem set5b_bel {w W : World} {n D : Nat} {v0 v1 v2 v3 v4 : Value} (h : Below n w W) (hD : n ≤ D) : Below n w (set5b W D v0 v1 v2 v3 v4) := ((((h.setCell hD v0).setCell hD v1).setCell hD v2).setCell hD v3).setCell hD v4
theorem set10_blk {W : World} {D : Nat} {t : TypeId} {u0 u1 u2 u3 u4 z0 z1 z2 z3 z4 v0 v1 v2 v3 v4 : Value} (h : Blk W D t #[u0, u1, u2, u3, u4, z0, z1, z2, z3, z4]) : Blk (set5 W D v0 v1 v2 v3 v4) D t #[v0, v1, v2, v3, v4, z0, z1, z2, z3, z4] := ((((h.set 0 v0).set 1 v1).set 2 v2).set 3 v3).set 4 v4
theorem set10b_blk {W : World} {D : Nat} {t : TypeId} {u0 u1 u2 u3 u4 z0 z1 z2 z3 z4 v0 v1 v2 v3 v4 : Value} (h : Blk W D t #[u0, u1, u2, u3, u4, z0, z1, z2, z3, z4]) : Blk (set5b W D v0 v1 v2 v3 v4) D t #[u0, u1, u2, u3, u4, v0, v1, v2, v3, v4] := ((((h.set 5 v0).set 6 v1).set 7 v2).set 8 v3).set 9 v4

set_option maxRecDepth 100000 in
set_option maxHeartbeats 8000000 in
theorem pairs_do : PairsDo := by
  intro A c a b x y f g w hls ha hb hx hy lx ly hf hg
  have e0 : ∀ (X : Vl) (i : Nat), i < 2 → (X.vs = [] ∨ X.vs.length = 2) → (X.vs = [] ∨ i < X.vs.length) := fun X i hi h => h.imp id fun h => by omega
  have HX0 := Lib.hid (fun W (h : Below w.heap.size w W) => half_any x 0 W (hx.later h) (e0 x 0 (by omega) lx))
  have HX1 := Lib.hid (fun W (h : Below w.heap.size w W) => half_any x 1 W (hx.later h) (e0 x 1 (by omega) lx))
  have HY0 := Lib.hid (fun W (h : Below w.heap.size w W) => half_any y 0 W (hy.later h) (e0 y 0 (by omega) ly))
  have HY1 := Lib.hid (fun W (h : Below w.heap.size w W) => half_any y 1 W (hy.later h) (e0 y 1 (by omega) ly))
  obtain ⟨o0, ho0⟩ : ∃ o, f (halfE x.er 0) (halfE y.er 0) = o := ⟨_, rfl⟩
  obtain ⟨o1, ho1⟩ : ∃ o, g (halfE x.er 1) (halfE y.er 1) = o := ⟨_, rfl⟩
  have HPE : Hid (pairE f g x.er y.er = o0.bind fun u => o1.map fun v => .mk 0 0 [] [] [u, v]) := by show pairE f g x.er y.er = _; unfold pairE; rw [ho0, ho1]
  rw [ho0] at hf
  rw [ho1] at hg
  have HJ0 := Lib.hid hf
  have HJ1 := Lib.hid hg
  obtain ⟨R, hR⟩ : ∃ R, pairE f g x.er y.er = R := ⟨_, rfl⟩
  rw [hR] at HPE
  rw [hR]
  obtain ⟨X0, hX0⟩ : ∃ X, halfV x 0 = X := ⟨_, rfl⟩
  obtain ⟨X1, hX1⟩ : ∃ X, halfV x 1 = X := ⟨_, rfl⟩
  obtain ⟨Y0, hY0⟩ : ∃ X, halfV y 0 = X := ⟨_, rfl⟩
  obtain ⟨Y1, hY1⟩ : ∃ X, halfV y 1 = X := ⟨_, rfl⟩
  rw [hX0] at HX0 HJ0
  rw [hX1] at HX1 HJ1
  rw [hY0] at HY0 HJ0
  rw [hY1] at HY1 HJ1
  obtain ⟨rb, ro, rfl, hrb, hcl⟩ := hls.get (k := 0) (by simp)
  obtain ⟨r0, r1⟩ := hcl 0 a rfl
  obtain ⟨r2, r3⟩ := hcl 1 b rfl
  clear hR hX0 hX1 hY0 hY1 ho0 ho1 hf hg e0 hx hy lx ly ha hb hls hcl
  obtain ⟨ak, aA, ac, al⟩ := a
  obtain ⟨bk, bA, bc, bl⟩ := b
  obtain ⟨n, m, sA, sc, ss, cA, cc, cs, vA, vc, vs⟩ := x
  obtain ⟨n', m', sA', sc', ss', cA', cc', cs', vA', vc', vs'⟩ := y
  obtain ⟨x0n, x0m, x0sA, x0sc, x0ss, x0cA, x0cc, x0cs, x0vA, x0vc, x0vs⟩ := X0
  obtain ⟨x1n, x1m, x1sA, x1sc, x1ss, x1cA, x1cc, x1cs, x1vA, x1vc, x1vs⟩ := X1
  obtain ⟨y0n, y0m, y0sA, y0sc, y0ss, y0cA, y0cc, y0cs, y0vA, y0vc, y0vs⟩ := Y0
  obtain ⟨y1n, y1m, y1sA, y1sc, y1ss, y1cA, y1cc, y1cs, y1vA, y1vc, y1vs⟩ := Y1
  simp only [S2.val_mk, val_mk] at HX0 HX1 HY0 HY1 HJ0 HJ1 ⊢
  simp only [S2.Sc.k, S2.Sc.v1, Nat.zero_mul, Nat.add_zero, Nat.one_mul] at r0 r1 r2 r3
  have hmk := make_two
  obtain ⟨V, hV⟩ : ∃ V, ((((w.alloc (.cells #[.int .u64 n, .int .u64 m, .slice sA ss.length sc, .slice cA cs.length cc, .slice vA vs.length vc] 32)).alloc (.cells #[.int .u64 n', .int .u64 m', .slice sA' ss'.length sc', .slice cA' cs'.length cc', .slice vA' vs'.length vc'] 32)).alloc (.cells #[.int .u64 0, .int .u64 0, .slice none 0 0, .slice none 0 0, .slice none 0 0] 32)).alloc (.cells #[.int .u64 0, .int .u64 0, .slice none 0 0, .slice none 0 0, .slice none 0 0, .int .u64 0, .int .u64 0, .slice none 0 0, .slice none 0 0, .slice none 0 0] 32)) = V := ⟨_, rfl⟩
  have bV : Below w.heap.size w V := by rw [← hV]; exact belAl (belAl (belAl (belAl (Below.refl _ _))))
  have BV : Below w.heap.size w V := bV
  have qx : Blk V w.heap.size 32 #[.int .u64 n, .int .u64 m, .slice sA ss.length sc, .slice cA cs.length cc, .slice vA vs.length vc] := by rw [← hV]; exact (((Blk.new w _ _).below (allocB _ _)).below (allocB _ _)).below (allocB _ _)
  have qy : Blk V (w.heap.size + 1) 32 #[.int .u64 n', .int .u64 m', .slice sA' ss'.length sc', .slice cA' cs'.length cc', .slice vA' vs'.length vc'] := by
    rw [← hV]
    have := Blk.new (w.alloc (.cells #[.int .u64 n, .int .u64 m, .slice sA ss.length sc, .slice cA cs.length cc, .slice vA vs.length vc] 32)) 32 #[.int .u64 n', .int .u64 m', .slice sA' ss'.length sc', .slice cA' cs'.length cc', .slice vA' vs'.length vc']
    rw [World.size_alloc] at this
    exact (this.below (allocB _ _)).below (allocB _ _)
  have qr : Blk V (w.heap.size + 1 + 1) 32 #[.int .u64 0, .int .u64 0, .slice none 0 0, .slice none 0 0, .slice none 0 0] := by
    rw [← hV]
    have := Blk.new ((w.alloc (.cells #[.int .u64 n, .int .u64 m, .slice sA ss.length sc, .slice cA cs.length cc, .slice vA vs.length vc] 32)).alloc (.cells #[.int .u64 n', .int .u64 m', .slice sA' ss'.length sc', .slice cA' cs'.length cc', .slice vA' vs'.length vc'] 32)) 32 #[.int .u64 0, .int .u64 0, .slice none 0 0, .slice none 0 0, .slice none 0 0]
    rw [World.size_alloc, World.size_alloc] at this
    exact this.below (allocB _ _)
  have qm : Blk V (w.heap.size + 1 + 1 + 1) 32 #[.int .u64 0, .int .u64 0, .slice none 0 0, .slice none 0 0, .slice none 0 0, .int .u64 0, .int .u64 0, .slice none 0 0, .slice none 0 0, .slice none 0 0] := by
    rw [← hV]
    have := Blk.new (((w.alloc (.cells #[.int .u64 n, .int .u64 m, .slice sA ss.length sc, .slice cA cs.length cc, .slice vA vs.length vc] 32)).alloc (.cells #[.int .u64 n', .int .u64 m', .slice sA' ss'.length sc', .slice cA' cs'.length cc', .slice vA' vs'.length vc'] 32)).alloc (.cells #[.int .u64 0, .int .u64 0, .slice none 0 0, .slice none 0 0, .slice none 0 0] 32)) 32 #[.int .u64 0, .int .u64 0, .slice none 0 0, .slice none 0 0, .slice none 0 0, .int .u64 0, .int .u64 0, .slice none 0 0, .slice none 0 0, .slice none 0 0]
    rw [World.size_alloc, World.size_alloc, World.size_alloc] at this
    exact this
  have hsV : w.heap.size + 4 ≤ V.heap.size := qm.lt
  go_enter Tryz.func45, Tryz.ntmps45
  go_wp2_with fail
  clear hV hmk
  refine wp_loop_rounds 3 ?_
  rw [rounds_succ]
  have cr0 : V.cell? ⟨rb, ro, none⟩ = some (.int .i64 ak) := (BV.cell (p := ⟨rb, ro, none⟩) hrb).trans r0
  have cr1 : V.cell? ⟨rb, ro + 1, none⟩ = some (.slice aA al.length ac) := (BV.cell (p := ⟨rb, ro + 1, none⟩) hrb).trans r1
  obtain ⟨U0, hU0⟩ : ∃ U0, V.alloc (.cells #[.int .i64 ak, .slice aA al.length ac] 24) = U0 := ⟨_, rfl⟩
  have bU0 : Below V.heap.size V U0 := by rw [← hU0]; exact allocB _ _
  have BU0 : Below w.heap.size w U0 := BV.trans (bU0.mono BV.size)
  have qs : Blk U0 V.heap.size 24 #[.int .i64 ak, .slice aA al.length ac] := by rw [← hU0]; exact Blk.new _ _ _
  replace qx := qx.below bU0
  replace qy := qy.below bU0
  replace qr := qr.below bU0
  replace qm := qm.below bU0
  have hsU0 : w.heap.size + 4 ≤ V.heap.size := by have := bU0.size; omega
  have hslU0 : V.heap.size < U0.heap.size := qs.lt
  go_upto_region 5 with fail
  clear cr0 cr1 hU0
  go_cut [11, 12, 18] from 18 to 42 (fun s11 s12 s18 wx => Hid (MidP U0 o0 s11 s12 wx) ∧ s18 = .int .i64 0)
  case first =>
    have lb0 : w.heap.size < U0.heap.size := by omega
    have lb1 : w.heap.size + 1 < U0.heap.size := by omega
    have lbs : V.heap.size < U0.heap.size := by omega
    have HK : Hid (∀ W, Below U0.heap.size U0 W → (fun w' => w'.cell? ⟨V.heap.size, 0, none⟩ = some (.int .i64 ak) ∧ w'.cell? ⟨V.heap.size, 1, none⟩ = some (.slice aA al.length ac) ∧ w'.cell? ⟨w.heap.size, 0, none⟩ = some (.int .u64 n) ∧ w'.cell? ⟨w.heap.size, 1, none⟩ = some (.int .u64 m) ∧ w'.cell? ⟨w.heap.size, 2, none⟩ = some (.slice sA ss.length sc) ∧ w'.cell? ⟨w.heap.size, 3, none⟩ = some (.slice cA cs.length cc) ∧ w'.cell? ⟨w.heap.size, 4, none⟩ = some (.slice vA vs.length vc) ∧ w'.cell? ⟨w.heap.size + 1, 0, none⟩ = some (.int .u64 n') ∧ w'.cell? ⟨w.heap.size + 1, 1, none⟩ = some (.int .u64 m') ∧ w'.cell? ⟨w.heap.size + 1, 2, none⟩ = some (.slice sA' ss'.length sc') ∧ w'.cell? ⟨w.heap.size + 1, 3, none⟩ = some (.slice cA' cs'.length cc') ∧ w'.cell? ⟨w.heap.size + 1, 4, none⟩ = some (.slice vA' vs'.length vc')) W) := fun W hW => ⟨(hW.cell (p := ⟨V.heap.size, 0, none⟩) lbs).trans (blk_cell qs 0 _ rfl), (hW.cell (p := ⟨V.heap.size, 1, none⟩) lbs).trans (blk_cell qs 1 _ rfl), (hW.cell (p := ⟨w.heap.size, 0, none⟩) lb0).trans (blk_cell qx 0 _ rfl), (hW.cell (p := ⟨w.heap.size, 1, none⟩) lb0).trans (blk_cell qx 1 _ rfl), (hW.cell (p := ⟨w.heap.size, 2, none⟩) lb0).trans (blk_cell qx 2 _ rfl), (hW.cell (p := ⟨w.heap.size, 3, none⟩) lb0).trans (blk_cell qx 3 _ rfl), (hW.cell (p := ⟨w.heap.size, 4, none⟩) lb0).trans (blk_cell qx 4 _ rfl), (hW.cell (p := ⟨w.heap.size + 1, 0, none⟩) lb1).trans (blk_cell qy 0 _ rfl), (hW.cell (p := ⟨w.heap.size + 1, 1, none⟩) lb1).trans (blk_cell qy 1 _ rfl), (hW.cell (p := ⟨w.heap.size + 1, 2, none⟩) lb1).trans (blk_cell qy 2 _ rfl), (hW.cell (p := ⟨w.heap.size + 1, 3, none⟩) lb1).trans (blk_cell qy 3 _ rfl), (hW.cell (p := ⟨w.heap.size + 1, 4, none⟩) lb1).trans (blk_cell qy 4 _ rfl)⟩
    have HW : Hid (Below w.heap.size w U0) := BU0
    refine wp_region_noPanic ?_
    refine wp_region_held_drew (S := (fun w' => w'.cell? ⟨V.heap.size, 0, none⟩ = some (.int .i64 ak) ∧ w'.cell? ⟨V.heap.size, 1, none⟩ = some (.slice aA al.length ac) ∧ w'.cell? ⟨w.heap.size, 0, none⟩ = some (.int .u64 n) ∧ w'.cell? ⟨w.heap.size, 1, none⟩ = some (.int .u64 m) ∧ w'.cell? ⟨w.heap.size, 2, none⟩ = some (.slice sA ss.length sc) ∧ w'.cell? ⟨w.heap.size, 3, none⟩ = some (.slice cA cs.length cc) ∧ w'.cell? ⟨w.heap.size, 4, none⟩ = some (.slice vA vs.length vc) ∧ w'.cell? ⟨w.heap.size + 1, 0, none⟩ = some (.int .u64 n') ∧ w'.cell? ⟨w.heap.size + 1, 1, none⟩ = some (.int .u64 m') ∧ w'.cell? ⟨w.heap.size + 1, 2, none⟩ = some (.slice sA' ss'.length sc') ∧ w'.cell? ⟨w.heap.size + 1, 3, none⟩ = some (.slice cA' cs'.length cc') ∧ w'.cell? ⟨w.heap.size + 1, 4, none⟩ = some (.slice vA' vs'.length vc'))) (by kernel_rfl) ?_ (fun hHeld => ?_)
    · exact HK.out _ (Below.refl _ _).drew
    obtain ⟨D, hD⟩ : ∃ D, U0.drew = D := ⟨_, rfl⟩
    rw [hD] at hHeld ⊢
    have HB : Hid (Below U0.heap.size U0 D) := by rw [← hD]; exact (Below.refl _ _).drew
    clear hD
    refine takeH 0 24 (v := ?t1_v) rfl rfl (by kernel_rfl) (by kernel_rfl) (by kernel_rfl) (fun _ _ _ h => h) (Or.inl ⟨by rfl, ?t1_h⟩) (by assumption) ?t1_r
    case t1_h => (intro w hSw; (try dsimp only at hSw); go_simp; try (with_reducible rfl))
    simp only [List.set_cons_zero, List.set_cons_succ]
    refine takeH 1 25 (v := ?t2_v) rfl rfl (by kernel_rfl) (by kernel_rfl) (by kernel_rfl) (fun _ _ _ h => h) (Or.inl ⟨by rfl, ?t2_h⟩) (by assumption) ?t2_r
    case t2_h => (intro w hSw; (try dsimp only at hSw); go_simp; try (with_reducible rfl))
    simp only [List.set_cons_zero, List.set_cons_succ]
    refine takeH 2 26 (v := ?t3_v) rfl rfl (by kernel_rfl) (by kernel_rfl) (by kernel_rfl) (fun _ _ _ h => h) (Or.inl ⟨by rfl, ?t3_h⟩) (by assumption) ?t3_r
    case t3_h => (intro w hSw; (try dsimp only at hSw); go_simp; try (with_reducible rfl))
    simp only [List.set_cons_zero, List.set_cons_succ]
    refine takeH 4 28 (v := ?t4_v) rfl rfl (by kernel_rfl) (by kernel_rfl) (by kernel_rfl) (fun _ _ _ h => h) (Or.inl ⟨by rfl, ?t4_h⟩) (by assumption) ?t4_r
    case t4_h => (intro w hSw; (try dsimp only at hSw); go_simp; try (with_reducible rfl))
    simp only [List.set_cons_zero, List.set_cons_succ]
    refine takeH 5 29 (v := ?t5_v) rfl rfl (by kernel_rfl) (by kernel_rfl) (by kernel_rfl) (fun _ _ _ h => h) (Or.inl ⟨by rfl, ?t5_h⟩) (by assumption) ?t5_r
    case t5_h => (intro w hSw; (try dsimp only at hSw); go_simp; try (with_reducible rfl))
    simp only [List.set_cons_zero, List.set_cons_succ]
    refine wpAnyH_ready (rs := [3, 11]) (by kernel_rfl) (by simp) ?_
    refine AllReadyH.cons rfl (fun K hK => ?n6_a) (AllReadyH.cons rfl (fun K hK => ?n6_b) AllReadyH.nil)
    case n6_a =>
      go_simp
      go_wp2_with (go_at_call 66; refine (HX0.out _ (HW.out.trans (HB.out.mono HW.out.size))).mono ?_; rintro e Da ⟨rfl, _, hbn⟩)
      replace HB : Hid (Below U0.heap.size U0 Da) := HB.out.trans (hbn.mono HB.out.size)
      clear hbn
      refine hK.out _ _ ?_ (fun hHeld => ?_)
      · exact HK.out _ HB.out
      clear hK K
      refine wpAnyH_ready (rs := [6, 11]) (by kernel_rfl) (by simp) ?_
      refine AllReadyH.cons rfl (fun K hK => ?n7_a) (AllReadyH.cons rfl (fun K hK => ?n7_b) AllReadyH.nil)
      case n7_a =>
        go_simp
        go_wp2_with (go_at_call 66; refine (HY0.out _ (HW.out.trans (HB.out.mono HW.out.size))).mono ?_; rintro e Dab ⟨rfl, _, hbn⟩)
        replace HB : Hid (Below U0.heap.size U0 Dab) := HB.out.trans (hbn.mono HB.out.size)
        clear hbn
        refine hK.out _ _ ?_ (fun hHeld => ?_)
        · exact HK.out _ HB.out
        clear hK K
        refine wpAnyH_ready (rs := [7, 11]) (by kernel_rfl) (by simp) ?_
        refine AllReadyH.cons rfl (fun K hK => ?n8_a) (AllReadyH.cons rfl (fun K hK => ?n8_b) AllReadyH.nil)
        case n8_a =>
          go_simp
          go_wp2_with (go_at_call 29; refine (HJ0.out _ (HW.out.trans (HB.out.mono HW.out.size))).mono ?_; rintro e Dabc hr; (obtain ⟨⟨un, um, usA, usc, uss, ucA, ucc, ucs, uvA, uvc, uvs⟩, ev, rfl, hzi, hbn, hcase⟩ := retJ_case hr; simp only [val_mk]; clear hr))
          have hM : U0.heap.size ≤ Dab.heap.size := HB.out.size
          replace HB : Hid (Below U0.heap.size U0 Dabc) := HB.out.trans (hbn.mono HB.out.size)
          refine hK.out _ _ ?_ (fun hHeld => ?_)
          · exact HK.out _ HB.out
          clear hK K
          refine takeH 8 23 (v := ?t9_v) rfl rfl (by kernel_rfl) (by kernel_rfl) (by kernel_rfl) (fun _ _ _ h => h) (Or.inl ⟨by rfl, ?t9_h⟩) (by assumption) ?t9_r
          case t9_h => (intro w hSw; (try dsimp only at hSw); go_simp; try (with_reducible rfl))
          simp only [List.set_cons_zero, List.set_cons_succ]
          refine takeH 9 32 (v := ?t10_v) rfl rfl (by kernel_rfl) (by kernel_rfl) (by kernel_rfl) (fun _ _ _ h => h) (Or.inl ⟨by rfl, ?t10_h⟩) (by assumption) ?t10_r
          case t10_h => (intro w hSw; (try dsimp only at hSw); go_simp; try (with_reducible rfl))
          simp only [List.set_cons_zero, List.set_cons_succ]
          refine takeH 10 33 (v := ?t11_v) rfl rfl (by kernel_rfl) (by kernel_rfl) (by kernel_rfl) (fun _ _ _ h => h) (Or.inl ⟨by rfl, ?t11_h⟩) (by assumption) ?t11_r
          case t11_h => (intro w hSw; (try dsimp only at hSw); go_simp; try (with_reducible rfl))
          simp only [List.set_cons_zero, List.set_cons_succ]
          refine wpAnyH_ready (rs := [11]) (by kernel_rfl) (by simp) ?_
          refine AllReadyH.cons rfl (fun K hK => ?_) AllReadyH.nil
          go_simp
          obtain ⟨Dabcp, hDabcp⟩ : ∃ Dabcp, Dabc.alloc (.cells #[.int .u64 0, .int .u64 0, .slice none 0 0, .slice none 0 0, .slice none 0 0] 32) = Dabcp := ⟨_, rfl⟩
          rw [hDabcp]
          have hbn : Below Dabc.heap.size Dabc Dabcp := by rw [← hDabcp]; exact allocB _ _
          have HPB : Hid (Blk Dabcp Dabc.heap.size 32 #[.int .u64 0, .int .u64 0, .slice none 0 0, .slice none 0 0, .slice none 0 0]) := by rw [← hDabcp]; exact Blk.new _ _ _
          have hpb : U0.heap.size ≤ Dabc.heap.size := HB.out.size
          replace HB : Hid (Below U0.heap.size U0 Dabcp) := HB.out.trans (hbn.mono HB.out.size)
          refine hK.out _ _ ?_ (fun hHeld => ?_)
          · exact HK.out _ HB.out
          clear hK K
          have HZI : Hid ((Vl.mk un um usA usc uss ucA ucc ucs uvA uvc uvs).Inp (fun b => Dab.heap.size ≤ b ∧ b < Dabcp.heap.size ∧ b ≠ Dabc.heap.size) Dabcp) := (hzi.keep fun b hP => hbn.block b hP.2).mono fun b hP => ⟨hP.1, Nat.lt_of_lt_of_le hP.2 hbn.size, Nat.ne_of_lt hP.2⟩
          have qp := HPB.out
          have d0 : Dabcp.cell? ⟨Dabc.heap.size, 0, none⟩ = some (.int .u64 0) := blk_cell qp 0 _ rfl
          have d1 : Dabcp.cell? ⟨Dabc.heap.size, 1, none⟩ = some (.int .u64 0) := blk_cell qp 1 _ rfl
          have d2 : Dabcp.cell? ⟨Dabc.heap.size, 2, none⟩ = some (.slice none 0 0) := blk_cell qp 2 _ rfl
          have d3 : Dabcp.cell? ⟨Dabc.heap.size, 3, none⟩ = some (.slice none 0 0) := blk_cell qp 3 _ rfl
          have d4 : Dabcp.cell? ⟨Dabc.heap.size, 4, none⟩ = some (.slice none 0 0) := blk_cell qp 4 _ rfl
          have f0 := blk_frozen qp 0
          have f1 := blk_frozen qp 1
          have f2 := blk_frozen qp 2
          have f3 := blk_frozen qp 3
          have f4 := blk_frozen qp 4
          refine wpAnyH_ready (rs := [12]) (by kernel_rfl) (by simp) ?_
          refine AllReadyH.cons rfl (fun K hK => ?_) AllReadyH.nil
          go_simp
          obtain ⟨Y, hY⟩ : ∃ Y, set5 Dabcp (Dabc.heap.size) (.int .u64 un) (.int .u64 um) (.slice usA uss.length usc) (.slice ucA ucs.length ucc) (.slice uvA uvs.length uvc) = Y := ⟨_, rfl⟩
          change K _ (set5 Dabcp (Dabc.heap.size) (.int .u64 un) (.int .u64 um) (.slice usA uss.length usc) (.slice ucA ucs.length ucc) (.slice uvA uvs.length uvc))
          rw [hY]
          have HMID : Hid (MidP U0 o0 (.pointer (some ⟨Dabc.heap.size, 0, none⟩)) ev Y) := by rw [← hY]; exact midP_mk (z := .mk un um usA usc uss ucA ucc ucs uvA uvc uvs) qp hpb HZI.out hM HB.out hcase
          replace HB : Hid (Below U0.heap.size U0 Y) := by rw [← hY]; exact set5_bel HB.out hpb
          refine hK.out _ _ ?_ (fun hHeld => ?_)
          · exact HK.out _ HB.out
          clear hK K
          refine takeH 13 12 (v := ?t12_v) rfl rfl (by kernel_rfl) (by kernel_rfl) (by kernel_rfl) (fun _ _ _ h => h) (Or.inl ⟨by rfl, ?t12_h⟩) (by assumption) ?t12_r
          case t12_h => (intro w hSw; (try dsimp only at hSw); go_simp; try (with_reducible rfl))
          simp only [List.set_cons_zero, List.set_cons_succ]
          refine wpAnyH_done (by kernel_rfl) ?_ _
          refine NoPanic.normal ?_
          go_wp2_with fail
          go_meet
          exact ⟨HMID, rfl⟩
        case n8_b =>
          go_simp
          obtain ⟨Dabp, hDabp⟩ : ∃ Dabp, Dab.alloc (.cells #[.int .u64 0, .int .u64 0, .slice none 0 0, .slice none 0 0, .slice none 0 0] 32) = Dabp := ⟨_, rfl⟩
          rw [hDabp]
          have hbn : Below Dab.heap.size Dab Dabp := by rw [← hDabp]; exact allocB _ _
          have HPB : Hid (Blk Dabp Dab.heap.size 32 #[.int .u64 0, .int .u64 0, .slice none 0 0, .slice none 0 0, .slice none 0 0]) := by rw [← hDabp]; exact Blk.new _ _ _
          have hpb : U0.heap.size ≤ Dab.heap.size := HB.out.size
          replace HB : Hid (Below U0.heap.size U0 Dabp) := HB.out.trans (hbn.mono HB.out.size)
          clear hbn
          refine hK.out _ _ ?_ (fun hHeld => ?_)
          · exact HK.out _ HB.out
          clear hK K
          refine wpAnyH_ready (rs := [7]) (by kernel_rfl) (by simp) ?_
          refine AllReadyH.cons rfl (fun K hK => ?_) AllReadyH.nil
          go_simp
          have HLT : Hid (Dab.heap.size < Dabp.heap.size) := HPB.out.lt
          go_wp2_with (go_at_call 29; refine (HJ0.out _ (HW.out.trans (HB.out.mono HW.out.size))).mono ?_; rintro e Dabpc hr; (obtain ⟨⟨un, um, usA, usc, uss, ucA, ucc, ucs, uvA, uvc, uvs⟩, ev, rfl, hzi, hbn, hcase⟩ := retJ_case hr; simp only [val_mk]; clear hr))
          have hM : U0.heap.size ≤ Dabp.heap.size := HB.out.size
          replace HPB := Lib.hid (HPB.out.below hbn)
          replace HB : Hid (Below U0.heap.size U0 Dabpc) := HB.out.trans (hbn.mono HB.out.size)
          refine hK.out _ _ ?_ (fun hHeld => ?_)
          · exact HK.out _ HB.out
          clear hK K
          refine takeH 8 23 (v := ?t14_v) rfl rfl (by kernel_rfl) (by kernel_rfl) (by kernel_rfl) (fun _ _ _ h => h) (Or.inl ⟨by rfl, ?t14_h⟩) (by assumption) ?t14_r
          case t14_h => (intro w hSw; (try dsimp only at hSw); go_simp; try (with_reducible rfl))
          simp only [List.set_cons_zero, List.set_cons_succ]
          refine takeH 9 32 (v := ?t15_v) rfl rfl (by kernel_rfl) (by kernel_rfl) (by kernel_rfl) (fun _ _ _ h => h) (Or.inl ⟨by rfl, ?t15_h⟩) (by assumption) ?t15_r
          case t15_h => (intro w hSw; (try dsimp only at hSw); go_simp; try (with_reducible rfl))
          simp only [List.set_cons_zero, List.set_cons_succ]
          refine takeH 10 33 (v := ?t16_v) rfl rfl (by kernel_rfl) (by kernel_rfl) (by kernel_rfl) (fun _ _ _ h => h) (Or.inl ⟨by rfl, ?t16_h⟩) (by assumption) ?t16_r
          case t16_h => (intro w hSw; (try dsimp only at hSw); go_simp; try (with_reducible rfl))
          simp only [List.set_cons_zero, List.set_cons_succ]
          have HZI : Hid ((Vl.mk un um usA usc uss ucA ucc ucs uvA uvc uvs).Inp (fun b => Dabp.heap.size ≤ b ∧ b < Dabpc.heap.size ∧ b ≠ Dab.heap.size) Dabpc) := hzi.mono fun b hP => ⟨hP.1, hP.2, by have := hP.1; have := HLT.out; omega⟩
          have qp := HPB.out
          have d0 : Dabpc.cell? ⟨Dab.heap.size, 0, none⟩ = some (.int .u64 0) := blk_cell qp 0 _ rfl
          have d1 : Dabpc.cell? ⟨Dab.heap.size, 1, none⟩ = some (.int .u64 0) := blk_cell qp 1 _ rfl
          have d2 : Dabpc.cell? ⟨Dab.heap.size, 2, none⟩ = some (.slice none 0 0) := blk_cell qp 2 _ rfl
          have d3 : Dabpc.cell? ⟨Dab.heap.size, 3, none⟩ = some (.slice none 0 0) := blk_cell qp 3 _ rfl
          have d4 : Dabpc.cell? ⟨Dab.heap.size, 4, none⟩ = some (.slice none 0 0) := blk_cell qp 4 _ rfl
          have f0 := blk_frozen qp 0
          have f1 := blk_frozen qp 1
          have f2 := blk_frozen qp 2
          have f3 := blk_frozen qp 3
          have f4 := blk_frozen qp 4
          refine wpAnyH_ready (rs := [12]) (by kernel_rfl) (by simp) ?_
          refine AllReadyH.cons rfl (fun K hK => ?_) AllReadyH.nil
          go_simp
          obtain ⟨Y, hY⟩ : ∃ Y, set5 Dabpc (Dab.heap.size) (.int .u64 un) (.int .u64 um) (.slice usA uss.length usc) (.slice ucA ucs.length ucc) (.slice uvA uvs.length uvc) = Y := ⟨_, rfl⟩
          change K _ (set5 Dabpc (Dab.heap.size) (.int .u64 un) (.int .u64 um) (.slice usA uss.length usc) (.slice ucA ucs.length ucc) (.slice uvA uvs.length uvc))
          rw [hY]
          have HMID : Hid (MidP U0 o0 (.pointer (some ⟨Dab.heap.size, 0, none⟩)) ev Y) := by rw [← hY]; exact midP_mk (z := .mk un um usA usc uss ucA ucc ucs uvA uvc uvs) qp hpb HZI.out hM HB.out hcase
          replace HB : Hid (Below U0.heap.size U0 Y) := by rw [← hY]; exact set5_bel HB.out hpb
          refine hK.out _ _ ?_ (fun hHeld => ?_)
          · exact HK.out _ HB.out
          clear hK K
          refine takeH 13 12 (v := ?t17_v) rfl rfl (by kernel_rfl) (by kernel_rfl) (by kernel_rfl) (fun _ _ _ h => h) (Or.inl ⟨by rfl, ?t17_h⟩) (by assumption) ?t17_r
          case t17_h => (intro w hSw; (try dsimp only at hSw); go_simp; try (with_reducible rfl))
          simp only [List.set_cons_zero, List.set_cons_succ]
          refine wpAnyH_done (by kernel_rfl) ?_ _
          refine NoPanic.normal ?_
          go_wp2_with fail
          go_meet
          exact ⟨HMID, rfl⟩
      case n7_b =>
        go_simp
        obtain ⟨Dap, hDap⟩ : ∃ Dap, Da.alloc (.cells #[.int .u64 0, .int .u64 0, .slice none 0 0, .slice none 0 0, .slice none 0 0] 32) = Dap := ⟨_, rfl⟩
        rw [hDap]
        have hbn : Below Da.heap.size Da Dap := by rw [← hDap]; exact allocB _ _
        have HPB : Hid (Blk Dap Da.heap.size 32 #[.int .u64 0, .int .u64 0, .slice none 0 0, .slice none 0 0, .slice none 0 0]) := by rw [← hDap]; exact Blk.new _ _ _
        have hpb : U0.heap.size ≤ Da.heap.size := HB.out.size
        replace HB : Hid (Below U0.heap.size U0 Dap) := HB.out.trans (hbn.mono HB.out.size)
        clear hbn
        refine hK.out _ _ ?_ (fun hHeld => ?_)
        · exact HK.out _ HB.out
        clear hK K
        refine wpAnyH_ready (rs := [6]) (by kernel_rfl) (by simp) ?_
        refine AllReadyH.cons rfl (fun K hK => ?_) AllReadyH.nil
        go_simp
        go_wp2_with (go_at_call 66; refine (HY0.out _ (HW.out.trans (HB.out.mono HW.out.size))).mono ?_; rintro e Dapb ⟨rfl, _, hbn⟩)
        replace HPB := Lib.hid (HPB.out.below hbn)
        replace HB : Hid (Below U0.heap.size U0 Dapb) := HB.out.trans (hbn.mono HB.out.size)
        clear hbn
        refine hK.out _ _ ?_ (fun hHeld => ?_)
        · exact HK.out _ HB.out
        clear hK K
        refine wpAnyH_ready (rs := [7]) (by kernel_rfl) (by simp) ?_
        refine AllReadyH.cons rfl (fun K hK => ?_) AllReadyH.nil
        go_simp
        have HLT : Hid (Da.heap.size < Dapb.heap.size) := HPB.out.lt
        go_wp2_with (go_at_call 29; refine (HJ0.out _ (HW.out.trans (HB.out.mono HW.out.size))).mono ?_; rintro e Dapbc hr; (obtain ⟨⟨un, um, usA, usc, uss, ucA, ucc, ucs, uvA, uvc, uvs⟩, ev, rfl, hzi, hbn, hcase⟩ := retJ_case hr; simp only [val_mk]; clear hr))
        have hM : U0.heap.size ≤ Dapb.heap.size := HB.out.size
        replace HPB := Lib.hid (HPB.out.below hbn)
        replace HB : Hid (Below U0.heap.size U0 Dapbc) := HB.out.trans (hbn.mono HB.out.size)
        refine hK.out _ _ ?_ (fun hHeld => ?_)
        · exact HK.out _ HB.out
        clear hK K
        refine takeH 8 23 (v := ?t20_v) rfl rfl (by kernel_rfl) (by kernel_rfl) (by kernel_rfl) (fun _ _ _ h => h) (Or.inl ⟨by rfl, ?t20_h⟩) (by assumption) ?t20_r
        case t20_h => (intro w hSw; (try dsimp only at hSw); go_simp; try (with_reducible rfl))
        simp only [List.set_cons_zero, List.set_cons_succ]
        refine takeH 9 32 (v := ?t21_v) rfl rfl (by kernel_rfl) (by kernel_rfl) (by kernel_rfl) (fun _ _ _ h => h) (Or.inl ⟨by rfl, ?t21_h⟩) (by assumption) ?t21_r
        case t21_h => (intro w hSw; (try dsimp only at hSw); go_simp; try (with_reducible rfl))
        simp only [List.set_cons_zero, List.set_cons_succ]
        refine takeH 10 33 (v := ?t22_v) rfl rfl (by kernel_rfl) (by kernel_rfl) (by kernel_rfl) (fun _ _ _ h => h) (Or.inl ⟨by rfl, ?t22_h⟩) (by assumption) ?t22_r
        case t22_h => (intro w hSw; (try dsimp only at hSw); go_simp; try (with_reducible rfl))
        simp only [List.set_cons_zero, List.set_cons_succ]
        have HZI : Hid ((Vl.mk un um usA usc uss ucA ucc ucs uvA uvc uvs).Inp (fun b => Dapb.heap.size ≤ b ∧ b < Dapbc.heap.size ∧ b ≠ Da.heap.size) Dapbc) := hzi.mono fun b hP => ⟨hP.1, hP.2, by have := hP.1; have := HLT.out; omega⟩
        have qp := HPB.out
        have d0 : Dapbc.cell? ⟨Da.heap.size, 0, none⟩ = some (.int .u64 0) := blk_cell qp 0 _ rfl
        have d1 : Dapbc.cell? ⟨Da.heap.size, 1, none⟩ = some (.int .u64 0) := blk_cell qp 1 _ rfl
        have d2 : Dapbc.cell? ⟨Da.heap.size, 2, none⟩ = some (.slice none 0 0) := blk_cell qp 2 _ rfl
        have d3 : Dapbc.cell? ⟨Da.heap.size, 3, none⟩ = some (.slice none 0 0) := blk_cell qp 3 _ rfl
        have d4 : Dapbc.cell? ⟨Da.heap.size, 4, none⟩ = some (.slice none 0 0) := blk_cell qp 4 _ rfl
        have f0 := blk_frozen qp 0
        have f1 := blk_frozen qp 1
        have f2 := blk_frozen qp 2
        have f3 := blk_frozen qp 3
        have f4 := blk_frozen qp 4
        refine wpAnyH_ready (rs := [12]) (by kernel_rfl) (by simp) ?_
        refine AllReadyH.cons rfl (fun K hK => ?_) AllReadyH.nil
        go_simp
        obtain ⟨Y, hY⟩ : ∃ Y, set5 Dapbc (Da.heap.size) (.int .u64 un) (.int .u64 um) (.slice usA uss.length usc) (.slice ucA ucs.length ucc) (.slice uvA uvs.length uvc) = Y := ⟨_, rfl⟩
        change K _ (set5 Dapbc (Da.heap.size) (.int .u64 un) (.int .u64 um) (.slice usA uss.length usc) (.slice ucA ucs.length ucc) (.slice uvA uvs.length uvc))
        rw [hY]
        have HMID : Hid (MidP U0 o0 (.pointer (some ⟨Da.heap.size, 0, none⟩)) ev Y) := by rw [← hY]; exact midP_mk (z := .mk un um usA usc uss ucA ucc ucs uvA uvc uvs) qp hpb HZI.out hM HB.out hcase
        replace HB : Hid (Below U0.heap.size U0 Y) := by rw [← hY]; exact set5_bel HB.out hpb
        refine hK.out _ _ ?_ (fun hHeld => ?_)
        · exact HK.out _ HB.out
        clear hK K
        refine takeH 13 12 (v := ?t23_v) rfl rfl (by kernel_rfl) (by kernel_rfl) (by kernel_rfl) (fun _ _ _ h => h) (Or.inl ⟨by rfl, ?t23_h⟩) (by assumption) ?t23_r
        case t23_h => (intro w hSw; (try dsimp only at hSw); go_simp; try (with_reducible rfl))
        simp only [List.set_cons_zero, List.set_cons_succ]
        refine wpAnyH_done (by kernel_rfl) ?_ _
        refine NoPanic.normal ?_
        go_wp2_with fail
        go_meet
        exact ⟨HMID, rfl⟩
    case n6_b =>
      go_simp
      obtain ⟨Dp, hDp⟩ : ∃ Dp, D.alloc (.cells #[.int .u64 0, .int .u64 0, .slice none 0 0, .slice none 0 0, .slice none 0 0] 32) = Dp := ⟨_, rfl⟩
      rw [hDp]
      have hbn : Below D.heap.size D Dp := by rw [← hDp]; exact allocB _ _
      have HPB : Hid (Blk Dp D.heap.size 32 #[.int .u64 0, .int .u64 0, .slice none 0 0, .slice none 0 0, .slice none 0 0]) := by rw [← hDp]; exact Blk.new _ _ _
      have hpb : U0.heap.size ≤ D.heap.size := HB.out.size
      replace HB : Hid (Below U0.heap.size U0 Dp) := HB.out.trans (hbn.mono HB.out.size)
      clear hbn
      refine hK.out _ _ ?_ (fun hHeld => ?_)
      · exact HK.out _ HB.out
      clear hK K
      refine wpAnyH_ready (rs := [3]) (by kernel_rfl) (by simp) ?_
      refine AllReadyH.cons rfl (fun K hK => ?_) AllReadyH.nil
      go_simp
      go_wp2_with (go_at_call 66; refine (HX0.out _ (HW.out.trans (HB.out.mono HW.out.size))).mono ?_; rintro e Dpa ⟨rfl, _, hbn⟩)
      replace HPB := Lib.hid (HPB.out.below hbn)
      replace HB : Hid (Below U0.heap.size U0 Dpa) := HB.out.trans (hbn.mono HB.out.size)
      clear hbn
      refine hK.out _ _ ?_ (fun hHeld => ?_)
      · exact HK.out _ HB.out
      clear hK K
      refine wpAnyH_ready (rs := [6]) (by kernel_rfl) (by simp) ?_
      refine AllReadyH.cons rfl (fun K hK => ?_) AllReadyH.nil
      go_simp
      go_wp2_with (go_at_call 66; refine (HY0.out _ (HW.out.trans (HB.out.mono HW.out.size))).mono ?_; rintro e Dpab ⟨rfl, _, hbn⟩)
      replace HPB := Lib.hid (HPB.out.below hbn)
      replace HB : Hid (Below U0.heap.size U0 Dpab) := HB.out.trans (hbn.mono HB.out.size)
      clear hbn
      refine hK.out _ _ ?_ (fun hHeld => ?_)
      · exact HK.out _ HB.out
      clear hK K
      refine wpAnyH_ready (rs := [7]) (by kernel_rfl) (by simp) ?_
      refine AllReadyH.cons rfl (fun K hK => ?_) AllReadyH.nil
      go_simp
      have HLT : Hid (D.heap.size < Dpab.heap.size) := HPB.out.lt
      go_wp2_with (go_at_call 29; refine (HJ0.out _ (HW.out.trans (HB.out.mono HW.out.size))).mono ?_; rintro e Dpabc hr; (obtain ⟨⟨un, um, usA, usc, uss, ucA, ucc, ucs, uvA, uvc, uvs⟩, ev, rfl, hzi, hbn, hcase⟩ := retJ_case hr; simp only [val_mk]; clear hr))
      have hM : U0.heap.size ≤ Dpab.heap.size := HB.out.size
      replace HPB := Lib.hid (HPB.out.below hbn)
      replace HB : Hid (Below U0.heap.size U0 Dpabc) := HB.out.trans (hbn.mono HB.out.size)
      refine hK.out _ _ ?_ (fun hHeld => ?_)
      · exact HK.out _ HB.out
      clear hK K
      refine takeH 8 23 (v := ?t27_v) rfl rfl (by kernel_rfl) (by kernel_rfl) (by kernel_rfl) (fun _ _ _ h => h) (Or.inl ⟨by rfl, ?t27_h⟩) (by assumption) ?t27_r
      case t27_h => (intro w hSw; (try dsimp only at hSw); go_simp; try (with_reducible rfl))
      simp only [List.set_cons_zero, List.set_cons_succ]
      refine takeH 9 32 (v := ?t28_v) rfl rfl (by kernel_rfl) (by kernel_rfl) (by kernel_rfl) (fun _ _ _ h => h) (Or.inl ⟨by rfl, ?t28_h⟩) (by assumption) ?t28_r
      case t28_h => (intro w hSw; (try dsimp only at hSw); go_simp; try (with_reducible rfl))
      simp only [List.set_cons_zero, List.set_cons_succ]
      refine takeH 10 33 (v := ?t29_v) rfl rfl (by kernel_rfl) (by kernel_rfl) (by kernel_rfl) (fun _ _ _ h => h) (Or.inl ⟨by rfl, ?t29_h⟩) (by assumption) ?t29_r
      case t29_h => (intro w hSw; (try dsimp only at hSw); go_simp; try (with_reducible rfl))
      simp only [List.set_cons_zero, List.set_cons_succ]
      have HZI : Hid ((Vl.mk un um usA usc uss ucA ucc ucs uvA uvc uvs).Inp (fun b => Dpab.heap.size ≤ b ∧ b < Dpabc.heap.size ∧ b ≠ D.heap.size) Dpabc) := hzi.mono fun b hP => ⟨hP.1, hP.2, by have := hP.1; have := HLT.out; omega⟩
      have qp := HPB.out
      have d0 : Dpabc.cell? ⟨D.heap.size, 0, none⟩ = some (.int .u64 0) := blk_cell qp 0 _ rfl
      have d1 : Dpabc.cell? ⟨D.heap.size, 1, none⟩ = some (.int .u64 0) := blk_cell qp 1 _ rfl
      have d2 : Dpabc.cell? ⟨D.heap.size, 2, none⟩ = some (.slice none 0 0) := blk_cell qp 2 _ rfl
      have d3 : Dpabc.cell? ⟨D.heap.size, 3, none⟩ = some (.slice none 0 0) := blk_cell qp 3 _ rfl
      have d4 : Dpabc.cell? ⟨D.heap.size, 4, none⟩ = some (.slice none 0 0) := blk_cell qp 4 _ rfl
      have f0 := blk_frozen qp 0
      have f1 := blk_frozen qp 1
      have f2 := blk_frozen qp 2
      have f3 := blk_frozen qp 3
      have f4 := blk_frozen qp 4
      refine wpAnyH_ready (rs := [12]) (by kernel_rfl) (by simp) ?_
      refine AllReadyH.cons rfl (fun K hK => ?_) AllReadyH.nil
      go_simp
      obtain ⟨Y, hY⟩ : ∃ Y, set5 Dpabc (D.heap.size) (.int .u64 un) (.int .u64 um) (.slice usA uss.length usc) (.slice ucA ucs.length ucc) (.slice uvA uvs.length uvc) = Y := ⟨_, rfl⟩
      change K _ (set5 Dpabc (D.heap.size) (.int .u64 un) (.int .u64 um) (.slice usA uss.length usc) (.slice ucA ucs.length ucc) (.slice uvA uvs.length uvc))
      rw [hY]
      have HMID : Hid (MidP U0 o0 (.pointer (some ⟨D.heap.size, 0, none⟩)) ev Y) := by rw [← hY]; exact midP_mk (z := .mk un um usA usc uss ucA ucc ucs uvA uvc uvs) qp hpb HZI.out hM HB.out hcase
      replace HB : Hid (Below U0.heap.size U0 Y) := by rw [← hY]; exact set5_bel HB.out hpb
      refine hK.out _ _ ?_ (fun hHeld => ?_)
      · exact HK.out _ HB.out
      clear hK K
      refine takeH 13 12 (v := ?t30_v) rfl rfl (by kernel_rfl) (by kernel_rfl) (by kernel_rfl) (fun _ _ _ h => h) (Or.inl ⟨by rfl, ?t30_h⟩) (by assumption) ?t30_r
      case t30_h => (intro w hSw; (try dsimp only at hSw); go_simp; try (with_reducible rfl))
      simp only [List.set_cons_zero, List.set_cons_succ]
      refine wpAnyH_done (by kernel_rfl) ?_ _
      refine NoPanic.normal ?_
      go_wp2_with fail
      go_meet
      exact ⟨HMID, rfl⟩
  obtain ⟨⟨pb, ⟨un, um, usA, usc, uss, ucA, ucc, ucs, uvA, uvc, uvs⟩, rfl, hpb, hqp, hzi, hbc, hcase⟩, rfl⟩ := hcut
  simp only [V4.Vl.n, V4.Vl.m, V4.Vl.s1, V4.Vl.c1, V4.Vl.v1] at hqp
  obtain ⟨C0, hC0⟩ : ∃ C0, wc = C0 := ⟨_, rfl⟩
  rw [hC0] at hqp hzi hbc
  rw [hC0]
  clear hC0
  have BC0 : Below w.heap.size w C0 := BU0.trans (hbc.mono BU0.size)
  replace qx := qx.below hbc
  replace qy := qy.below hbc
  replace qr := qr.below hbc
  replace qm := qm.below hbc
  clear qs
  have hsC0 := hbc.size
  rcases hcase with ⟨ho, rfl⟩ | ⟨ho, rfl⟩
  · have hev : errV 13 = .iface 39 (.int .i64 13) := rfl
    rw [hev]
    have d0 : C0.cell? ⟨w.heap.size + 1 + 1, 0, none⟩ = some (.int .u64 0) := blk_cell qr 0 _ rfl
    have d1 : C0.cell? ⟨w.heap.size + 1 + 1, 1, none⟩ = some (.int .u64 0) := blk_cell qr 1 _ rfl
    have d2 : C0.cell? ⟨w.heap.size + 1 + 1, 2, none⟩ = some (.slice none 0 0) := blk_cell qr 2 _ rfl
    have d3 : C0.cell? ⟨w.heap.size + 1 + 1, 3, none⟩ = some (.slice none 0 0) := blk_cell qr 3 _ rfl
    have d4 : C0.cell? ⟨w.heap.size + 1 + 1, 4, none⟩ = some (.slice none 0 0) := blk_cell qr 4 _ rfl
    have f0 := blk_frozen qr 0
    have f1 := blk_frozen qr 1
    have f2 := blk_frozen qr 2
    have f3 := blk_frozen qr 3
    have f4 := blk_frozen qr 4
    go_wp2_with fail
    refine bodyPost_ret (results_cv rfl _ _ (w.heap.size + 1 + 1) (.int .u64 0) (.int .u64 0) (.slice none 0 0) (.slice none 0 0) (.slice none 0 0) rfl (blk_cell (set5_blk qr) 0 _ rfl) (blk_cell (set5_blk qr) 1 _ rfl) (blk_cell (set5_blk qr) 2 _ rfl) (blk_cell (set5_blk qr) 3 _ rfl) (blk_cell (set5_blk qr) 4 _ rfl)) rfl ?_
    refine .inr ⟨?_, rfl, set5_bel BC0 (by omega)⟩
    rw [HPE.out, ho]
    rfl
  have HO0 := Lib.hid ho
  clear ho
  have a0 : C0.cell? ⟨pb, 0, none⟩ = some (.int .u64 un) := blk_cell hqp 0 _ rfl
  have a1 : C0.cell? ⟨pb, 1, none⟩ = some (.int .u64 um) := blk_cell hqp 1 _ rfl
  have a2 : C0.cell? ⟨pb, 2, none⟩ = some (.slice usA uss.length usc) := blk_cell hqp 2 _ rfl
  have a3 : C0.cell? ⟨pb, 3, none⟩ = some (.slice ucA ucs.length ucc) := blk_cell hqp 3 _ rfl
  have a4 : C0.cell? ⟨pb, 4, none⟩ = some (.slice uvA uvs.length uvc) := blk_cell hqp 4 _ rfl
  have m0 : C0.cell? ⟨w.heap.size + 1 + 1 + 1, 0, none⟩ = some (.int .u64 0) := blk_cell qm 0 _ rfl
  have m1 : C0.cell? ⟨w.heap.size + 1 + 1 + 1, 1, none⟩ = some (.int .u64 0) := blk_cell qm 1 _ rfl
  have m2 : C0.cell? ⟨w.heap.size + 1 + 1 + 1, 2, none⟩ = some (.slice none 0 0) := blk_cell qm 2 _ rfl
  have m3 : C0.cell? ⟨w.heap.size + 1 + 1 + 1, 3, none⟩ = some (.slice none 0 0) := blk_cell qm 3 _ rfl
  have m4 : C0.cell? ⟨w.heap.size + 1 + 1 + 1, 4, none⟩ = some (.slice none 0 0) := blk_cell qm 4 _ rfl
  have m5 : C0.cell? ⟨w.heap.size + 1 + 1 + 1, 5, none⟩ = some (.int .u64 0) := blk_cell qm 5 _ rfl
  have m6 : C0.cell? ⟨w.heap.size + 1 + 1 + 1, 6, none⟩ = some (.int .u64 0) := blk_cell qm 6 _ rfl
  have m7 : C0.cell? ⟨w.heap.size + 1 + 1 + 1, 7, none⟩ = some (.slice none 0 0) := blk_cell qm 7 _ rfl
  have m8 : C0.cell? ⟨w.heap.size + 1 + 1 + 1, 8, none⟩ = some (.slice none 0 0) := blk_cell qm 8 _ rfl
  have m9 : C0.cell? ⟨w.heap.size + 1 + 1 + 1, 9, none⟩ = some (.slice none 0 0) := blk_cell qm 9 _ rfl
  have g0 := blk_frozen qm 0
  have g1 := blk_frozen qm 1
  have g2 := blk_frozen qm 2
  have g3 := blk_frozen qm 3
  have g4 := blk_frozen qm 4
  obtain ⟨E0, hE0⟩ : ∃ E0, set5 C0 (w.heap.size + 1 + 1 + 1) (.int .u64 un) (.int .u64 um) (.slice usA uss.length usc) (.slice ucA ucs.length ucc) (.slice uvA uvs.length uvc) = E0 := ⟨_, rfl⟩
  have BE0 : Below w.heap.size w E0 := by rw [← hE0]; exact set5_bel BC0 (by omega)
  have hsE0 : E0.heap.size ≤ C0.heap.size ∧ C0.heap.size ≤ E0.heap.size := by rw [← hE0]; exact ⟨Nat.le_of_eq set5_size, Nat.le_of_eq set5_size.symm⟩
  have qm2 : Blk E0 (w.heap.size + 1 + 1 + 1) 32 #[.int .u64 un, .int .u64 um, .slice usA uss.length usc, .slice ucA ucs.length ucc, .slice uvA uvs.length uvc, .int .u64 0, .int .u64 0, .slice none 0 0, .slice none 0 0, .slice none 0 0] := by rw [← hE0]; exact set10_blk qm
  replace qx : Blk E0 (w.heap.size) 32 #[.int .u64 n, .int .u64 m, .slice sA ss.length sc, .slice cA cs.length cc, .slice vA vs.length vc] := by rw [← hE0]; exact (set5_low (by omega)).trans qx
  replace qy : Blk E0 (w.heap.size + 1) 32 #[.int .u64 n', .int .u64 m', .slice sA' ss'.length sc', .slice cA' cs'.length cc', .slice vA' vs'.length vc'] := by rw [← hE0]; exact (set5_low (by omega)).trans qy
  replace qr : Blk E0 (w.heap.size + 1 + 1) 32 #[.int .u64 0, .int .u64 0, .slice none 0 0, .slice none 0 0, .slice none 0 0] := by rw [← hE0]; exact (set5_low (by omega)).trans qr
  have HN0 : Hid ((Vl.mk un um usA usc uss ucA ucc ucs uvA uvc uvs).Inp (fun b => w.heap.size + 4 ≤ b ∧ b < E0.heap.size) E0) := by
    refine (hzi.keep fun b hP => ?_).mono fun b hP => ⟨by have := hP.1; omega, by have := hP.2.1; omega⟩
    rw [← hE0]; exact set5_low (by have := hP.1; omega)
  have hE : set5 C0 (w.heap.size + 1 + 1 + 1) (.int .u64 un) (.int .u64 um) (.slice usA uss.length usc) (.slice ucA ucs.length ucc) (.slice uvA uvs.length uvc) = E0 := hE0
  unfold set5 at hE
  clear hE0 qm hzi hqp
  go_wp2_with fail
  clear hE a0 a1 a2 a3 a4 m0 m1 m2 m3 m4 m5 m6 m7 m8 m9 g0 g1 g2 g3 g4
  have HU0 := HN0
  clear HN0
  have qm := qm2
  clear qm2
  rw [rounds_succ]
  have cr2 : E0.cell? ⟨rb, ro + 2, none⟩ = some (.int .i64 bk) := (BE0.cell (p := ⟨rb, ro + 2, none⟩) hrb).trans r2
  have cr3 : E0.cell? ⟨rb, ro + 2 + 1, none⟩ = some (.slice bA bl.length bc) := (BE0.cell (p := ⟨rb, ro + 2 + 1, none⟩) hrb).trans r3
  obtain ⟨U1, hU1⟩ : ∃ U1, E0.alloc (.cells #[.int .i64 bk, .slice bA bl.length bc] 24) = U1 := ⟨_, rfl⟩
  have bU1 : Below E0.heap.size E0 U1 := by rw [← hU1]; exact allocB _ _
  have BU1 : Below w.heap.size w U1 := BE0.trans (bU1.mono BE0.size)
  have qs : Blk U1 E0.heap.size 24 #[.int .i64 bk, .slice bA bl.length bc] := by rw [← hU1]; exact Blk.new _ _ _
  replace qx := qx.below bU1
  replace qy := qy.below bU1
  replace qr := qr.below bU1
  replace qm := qm.below bU1
  replace HU0 : Hid ((Vl.mk un um usA usc uss ucA ucc ucs uvA uvc uvs).Inp (fun b => w.heap.size + 4 ≤ b ∧ b < U1.heap.size) U1) := (HU0.out.keep fun b hP => bU1.block b hP.2).mono fun b hP => ⟨hP.1, Nat.lt_of_lt_of_le hP.2 bU1.size⟩
  have hsU1 : w.heap.size + 4 ≤ E0.heap.size := by have := bU1.size; omega
  have hslU1 : E0.heap.size < U1.heap.size := qs.lt
  go_upto_region 5 with fail
  clear cr2 cr3 hU1
  go_cut [11, 12, 18] from 18 to 42 (fun s11 s12 s18 wx => Hid (MidP U1 o1 s11 s12 wx) ∧ s18 = .int .i64 1)
  case first =>
    have lb0 : w.heap.size < U1.heap.size := by omega
    have lb1 : w.heap.size + 1 < U1.heap.size := by omega
    have lbs : E0.heap.size < U1.heap.size := by omega
    have HK : Hid (∀ W, Below U1.heap.size U1 W → (fun w' => w'.cell? ⟨E0.heap.size, 0, none⟩ = some (.int .i64 bk) ∧ w'.cell? ⟨E0.heap.size, 1, none⟩ = some (.slice bA bl.length bc) ∧ w'.cell? ⟨w.heap.size, 0, none⟩ = some (.int .u64 n) ∧ w'.cell? ⟨w.heap.size, 1, none⟩ = some (.int .u64 m) ∧ w'.cell? ⟨w.heap.size, 2, none⟩ = some (.slice sA ss.length sc) ∧ w'.cell? ⟨w.heap.size, 3, none⟩ = some (.slice cA cs.length cc) ∧ w'.cell? ⟨w.heap.size, 4, none⟩ = some (.slice vA vs.length vc) ∧ w'.cell? ⟨w.heap.size + 1, 0, none⟩ = some (.int .u64 n') ∧ w'.cell? ⟨w.heap.size + 1, 1, none⟩ = some (.int .u64 m') ∧ w'.cell? ⟨w.heap.size + 1, 2, none⟩ = some (.slice sA' ss'.length sc') ∧ w'.cell? ⟨w.heap.size + 1, 3, none⟩ = some (.slice cA' cs'.length cc') ∧ w'.cell? ⟨w.heap.size + 1, 4, none⟩ = some (.slice vA' vs'.length vc')) W) := fun W hW => ⟨(hW.cell (p := ⟨E0.heap.size, 0, none⟩) lbs).trans (blk_cell qs 0 _ rfl), (hW.cell (p := ⟨E0.heap.size, 1, none⟩) lbs).trans (blk_cell qs 1 _ rfl), (hW.cell (p := ⟨w.heap.size, 0, none⟩) lb0).trans (blk_cell qx 0 _ rfl), (hW.cell (p := ⟨w.heap.size, 1, none⟩) lb0).trans (blk_cell qx 1 _ rfl), (hW.cell (p := ⟨w.heap.size, 2, none⟩) lb0).trans (blk_cell qx 2 _ rfl), (hW.cell (p := ⟨w.heap.size, 3, none⟩) lb0).trans (blk_cell qx 3 _ rfl), (hW.cell (p := ⟨w.heap.size, 4, none⟩) lb0).trans (blk_cell qx 4 _ rfl), (hW.cell (p := ⟨w.heap.size + 1, 0, none⟩) lb1).trans (blk_cell qy 0 _ rfl), (hW.cell (p := ⟨w.heap.size + 1, 1, none⟩) lb1).trans (blk_cell qy 1 _ rfl), (hW.cell (p := ⟨w.heap.size + 1, 2, none⟩) lb1).trans (blk_cell qy 2 _ rfl), (hW.cell (p := ⟨w.heap.size + 1, 3, none⟩) lb1).trans (blk_cell qy 3 _ rfl), (hW.cell (p := ⟨w.heap.size + 1, 4, none⟩) lb1).trans (blk_cell qy 4 _ rfl)⟩
    have HW : Hid (Below w.heap.size w U1) := BU1
    refine wp_region_noPanic ?_
    refine wp_region_held_drew (S := (fun w' => w'.cell? ⟨E0.heap.size, 0, none⟩ = some (.int .i64 bk) ∧ w'.cell? ⟨E0.heap.size, 1, none⟩ = some (.slice bA bl.length bc) ∧ w'.cell? ⟨w.heap.size, 0, none⟩ = some (.int .u64 n) ∧ w'.cell? ⟨w.heap.size, 1, none⟩ = some (.int .u64 m) ∧ w'.cell? ⟨w.heap.size, 2, none⟩ = some (.slice sA ss.length sc) ∧ w'.cell? ⟨w.heap.size, 3, none⟩ = some (.slice cA cs.length cc) ∧ w'.cell? ⟨w.heap.size, 4, none⟩ = some (.slice vA vs.length vc) ∧ w'.cell? ⟨w.heap.size + 1, 0, none⟩ = some (.int .u64 n') ∧ w'.cell? ⟨w.heap.size + 1, 1, none⟩ = some (.int .u64 m') ∧ w'.cell? ⟨w.heap.size + 1, 2, none⟩ = some (.slice sA' ss'.length sc') ∧ w'.cell? ⟨w.heap.size + 1, 3, none⟩ = some (.slice cA' cs'.length cc') ∧ w'.cell? ⟨w.heap.size + 1, 4, none⟩ = some (.slice vA' vs'.length vc'))) (by kernel_rfl) ?_ (fun hHeld => ?_)
    · exact HK.out _ (Below.refl _ _).drew
    obtain ⟨D, hD⟩ : ∃ D, U1.drew = D := ⟨_, rfl⟩
    rw [hD] at hHeld ⊢
    have HB : Hid (Below U1.heap.size U1 D) := by rw [← hD]; exact (Below.refl _ _).drew
    clear hD
    refine takeH 0 24 (v := ?t31_v) rfl rfl (by kernel_rfl) (by kernel_rfl) (by kernel_rfl) (fun _ _ _ h => h) (Or.inl ⟨by rfl, ?t31_h⟩) (by assumption) ?t31_r
    case t31_h => (intro w hSw; (try dsimp only at hSw); go_simp; try (with_reducible rfl))
    simp only [List.set_cons_zero, List.set_cons_succ]
    refine takeH 1 25 (v := ?t32_v) rfl rfl (by kernel_rfl) (by kernel_rfl) (by kernel_rfl) (fun _ _ _ h => h) (Or.inl ⟨by rfl, ?t32_h⟩) (by assumption) ?t32_r
    case t32_h => (intro w hSw; (try dsimp only at hSw); go_simp; try (with_reducible rfl))
    simp only [List.set_cons_zero, List.set_cons_succ]
    refine takeH 2 26 (v := ?t33_v) rfl rfl (by kernel_rfl) (by kernel_rfl) (by kernel_rfl) (fun _ _ _ h => h) (Or.inl ⟨by rfl, ?t33_h⟩) (by assumption) ?t33_r
    case t33_h => (intro w hSw; (try dsimp only at hSw); go_simp; try (with_reducible rfl))
    simp only [List.set_cons_zero, List.set_cons_succ]
    refine takeH 4 28 (v := ?t34_v) rfl rfl (by kernel_rfl) (by kernel_rfl) (by kernel_rfl) (fun _ _ _ h => h) (Or.inl ⟨by rfl, ?t34_h⟩) (by assumption) ?t34_r
    case t34_h => (intro w hSw; (try dsimp only at hSw); go_simp; try (with_reducible rfl))
    simp only [List.set_cons_zero, List.set_cons_succ]
    refine takeH 5 29 (v := ?t35_v) rfl rfl (by kernel_rfl) (by kernel_rfl) (by kernel_rfl) (fun _ _ _ h => h) (Or.inl ⟨by rfl, ?t35_h⟩) (by assumption) ?t35_r
    case t35_h => (intro w hSw; (try dsimp only at hSw); go_simp; try (with_reducible rfl))
    simp only [List.set_cons_zero, List.set_cons_succ]
    refine wpAnyH_ready (rs := [3, 11]) (by kernel_rfl) (by simp) ?_
    refine AllReadyH.cons rfl (fun K hK => ?n36_a) (AllReadyH.cons rfl (fun K hK => ?n36_b) AllReadyH.nil)
    case n36_a =>
      go_simp
      go_wp2_with (go_at_call 66; refine (HX1.out _ (HW.out.trans (HB.out.mono HW.out.size))).mono ?_; rintro e Da ⟨rfl, _, hbn⟩)
      replace HB : Hid (Below U1.heap.size U1 Da) := HB.out.trans (hbn.mono HB.out.size)
      clear hbn
      refine hK.out _ _ ?_ (fun hHeld => ?_)
      · exact HK.out _ HB.out
      clear hK K
      refine wpAnyH_ready (rs := [6, 11]) (by kernel_rfl) (by simp) ?_
      refine AllReadyH.cons rfl (fun K hK => ?n37_a) (AllReadyH.cons rfl (fun K hK => ?n37_b) AllReadyH.nil)
      case n37_a =>
        go_simp
        go_wp2_with (go_at_call 66; refine (HY1.out _ (HW.out.trans (HB.out.mono HW.out.size))).mono ?_; rintro e Dab ⟨rfl, _, hbn⟩)
        replace HB : Hid (Below U1.heap.size U1 Dab) := HB.out.trans (hbn.mono HB.out.size)
        clear hbn
        refine hK.out _ _ ?_ (fun hHeld => ?_)
        · exact HK.out _ HB.out
        clear hK K
        refine wpAnyH_ready (rs := [7, 11]) (by kernel_rfl) (by simp) ?_
        refine AllReadyH.cons rfl (fun K hK => ?n38_a) (AllReadyH.cons rfl (fun K hK => ?n38_b) AllReadyH.nil)
        case n38_a =>
          go_simp
          go_wp2_with (go_at_call 29; refine (HJ1.out _ (HW.out.trans (HB.out.mono HW.out.size))).mono ?_; rintro e Dabc hr; (obtain ⟨⟨zn, zm, zsA, zsc, zss, zcA, zcc, zcs, zvA, zvc, zvs⟩, ev, rfl, hzi, hbn, hcase⟩ := retJ_case hr; simp only [val_mk]; clear hr))
          have hM : U1.heap.size ≤ Dab.heap.size := HB.out.size
          replace HB : Hid (Below U1.heap.size U1 Dabc) := HB.out.trans (hbn.mono HB.out.size)
          refine hK.out _ _ ?_ (fun hHeld => ?_)
          · exact HK.out _ HB.out
          clear hK K
          refine takeH 8 23 (v := ?t39_v) rfl rfl (by kernel_rfl) (by kernel_rfl) (by kernel_rfl) (fun _ _ _ h => h) (Or.inl ⟨by rfl, ?t39_h⟩) (by assumption) ?t39_r
          case t39_h => (intro w hSw; (try dsimp only at hSw); go_simp; try (with_reducible rfl))
          simp only [List.set_cons_zero, List.set_cons_succ]
          refine takeH 9 32 (v := ?t40_v) rfl rfl (by kernel_rfl) (by kernel_rfl) (by kernel_rfl) (fun _ _ _ h => h) (Or.inl ⟨by rfl, ?t40_h⟩) (by assumption) ?t40_r
          case t40_h => (intro w hSw; (try dsimp only at hSw); go_simp; try (with_reducible rfl))
          simp only [List.set_cons_zero, List.set_cons_succ]
          refine takeH 10 33 (v := ?t41_v) rfl rfl (by kernel_rfl) (by kernel_rfl) (by kernel_rfl) (fun _ _ _ h => h) (Or.inl ⟨by rfl, ?t41_h⟩) (by assumption) ?t41_r
          case t41_h => (intro w hSw; (try dsimp only at hSw); go_simp; try (with_reducible rfl))
          simp only [List.set_cons_zero, List.set_cons_succ]
          refine wpAnyH_ready (rs := [11]) (by kernel_rfl) (by simp) ?_
          refine AllReadyH.cons rfl (fun K hK => ?_) AllReadyH.nil
          go_simp
          obtain ⟨Dabcp, hDabcp⟩ : ∃ Dabcp, Dabc.alloc (.cells #[.int .u64 0, .int .u64 0, .slice none 0 0, .slice none 0 0, .slice none 0 0] 32) = Dabcp := ⟨_, rfl⟩
          rw [hDabcp]
          have hbn : Below Dabc.heap.size Dabc Dabcp := by rw [← hDabcp]; exact allocB _ _
          have HPB : Hid (Blk Dabcp Dabc.heap.size 32 #[.int .u64 0, .int .u64 0, .slice none 0 0, .slice none 0 0, .slice none 0 0]) := by rw [← hDabcp]; exact Blk.new _ _ _
          have hpb : U1.heap.size ≤ Dabc.heap.size := HB.out.size
          replace HB : Hid (Below U1.heap.size U1 Dabcp) := HB.out.trans (hbn.mono HB.out.size)
          refine hK.out _ _ ?_ (fun hHeld => ?_)
          · exact HK.out _ HB.out
          clear hK K
          have HZI : Hid ((Vl.mk zn zm zsA zsc zss zcA zcc zcs zvA zvc zvs).Inp (fun b => Dab.heap.size ≤ b ∧ b < Dabcp.heap.size ∧ b ≠ Dabc.heap.size) Dabcp) := (hzi.keep fun b hP => hbn.block b hP.2).mono fun b hP => ⟨hP.1, Nat.lt_of_lt_of_le hP.2 hbn.size, Nat.ne_of_lt hP.2⟩
          have qp := HPB.out
          have d0 : Dabcp.cell? ⟨Dabc.heap.size, 0, none⟩ = some (.int .u64 0) := blk_cell qp 0 _ rfl
          have d1 : Dabcp.cell? ⟨Dabc.heap.size, 1, none⟩ = some (.int .u64 0) := blk_cell qp 1 _ rfl
          have d2 : Dabcp.cell? ⟨Dabc.heap.size, 2, none⟩ = some (.slice none 0 0) := blk_cell qp 2 _ rfl
          have d3 : Dabcp.cell? ⟨Dabc.heap.size, 3, none⟩ = some (.slice none 0 0) := blk_cell qp 3 _ rfl
          have d4 : Dabcp.cell? ⟨Dabc.heap.size, 4, none⟩ = some (.slice none 0 0) := blk_cell qp 4 _ rfl
          have f0 := blk_frozen qp 0
          have f1 := blk_frozen qp 1
          have f2 := blk_frozen qp 2
          have f3 := blk_frozen qp 3
          have f4 := blk_frozen qp 4
          refine wpAnyH_ready (rs := [12]) (by kernel_rfl) (by simp) ?_
          refine AllReadyH.cons rfl (fun K hK => ?_) AllReadyH.nil
          go_simp
          obtain ⟨Y, hY⟩ : ∃ Y, set5 Dabcp (Dabc.heap.size) (.int .u64 zn) (.int .u64 zm) (.slice zsA zss.length zsc) (.slice zcA zcs.length zcc) (.slice zvA zvs.length zvc) = Y := ⟨_, rfl⟩
          change K _ (set5 Dabcp (Dabc.heap.size) (.int .u64 zn) (.int .u64 zm) (.slice zsA zss.length zsc) (.slice zcA zcs.length zcc) (.slice zvA zvs.length zvc))
          rw [hY]
          have HMID : Hid (MidP U1 o1 (.pointer (some ⟨Dabc.heap.size, 0, none⟩)) ev Y) := by rw [← hY]; exact midP_mk (z := .mk zn zm zsA zsc zss zcA zcc zcs zvA zvc zvs) qp hpb HZI.out hM HB.out hcase
          replace HB : Hid (Below U1.heap.size U1 Y) := by rw [← hY]; exact set5_bel HB.out hpb
          refine hK.out _ _ ?_ (fun hHeld => ?_)
          · exact HK.out _ HB.out
          clear hK K
          refine takeH 13 12 (v := ?t42_v) rfl rfl (by kernel_rfl) (by kernel_rfl) (by kernel_rfl) (fun _ _ _ h => h) (Or.inl ⟨by rfl, ?t42_h⟩) (by assumption) ?t42_r
          case t42_h => (intro w hSw; (try dsimp only at hSw); go_simp; try (with_reducible rfl))
          simp only [List.set_cons_zero, List.set_cons_succ]
          refine wpAnyH_done (by kernel_rfl) ?_ _
          refine NoPanic.normal ?_
          go_wp2_with fail
          go_meet
          exact ⟨HMID, rfl⟩
        case n38_b =>
          go_simp
          obtain ⟨Dabp, hDabp⟩ : ∃ Dabp, Dab.alloc (.cells #[.int .u64 0, .int .u64 0, .slice none 0 0, .slice none 0 0, .slice none 0 0] 32) = Dabp := ⟨_, rfl⟩
          rw [hDabp]
          have hbn : Below Dab.heap.size Dab Dabp := by rw [← hDabp]; exact allocB _ _
          have HPB : Hid (Blk Dabp Dab.heap.size 32 #[.int .u64 0, .int .u64 0, .slice none 0 0, .slice none 0 0, .slice none 0 0]) := by rw [← hDabp]; exact Blk.new _ _ _
          have hpb : U1.heap.size ≤ Dab.heap.size := HB.out.size
          replace HB : Hid (Below U1.heap.size U1 Dabp) := HB.out.trans (hbn.mono HB.out.size)
          clear hbn
          refine hK.out _ _ ?_ (fun hHeld => ?_)
          · exact HK.out _ HB.out
          clear hK K
          refine wpAnyH_ready (rs := [7]) (by kernel_rfl) (by simp) ?_
          refine AllReadyH.cons rfl (fun K hK => ?_) AllReadyH.nil
          go_simp
          have HLT : Hid (Dab.heap.size < Dabp.heap.size) := HPB.out.lt
          go_wp2_with (go_at_call 29; refine (HJ1.out _ (HW.out.trans (HB.out.mono HW.out.size))).mono ?_; rintro e Dabpc hr; (obtain ⟨⟨zn, zm, zsA, zsc, zss, zcA, zcc, zcs, zvA, zvc, zvs⟩, ev, rfl, hzi, hbn, hcase⟩ := retJ_case hr; simp only [val_mk]; clear hr))
          have hM : U1.heap.size ≤ Dabp.heap.size := HB.out.size
          replace HPB := Lib.hid (HPB.out.below hbn)
          replace HB : Hid (Below U1.heap.size U1 Dabpc) := HB.out.trans (hbn.mono HB.out.size)
          refine hK.out _ _ ?_ (fun hHeld => ?_)
          · exact HK.out _ HB.out
          clear hK K
          refine takeH 8 23 (v := ?t44_v) rfl rfl (by kernel_rfl) (by kernel_rfl) (by kernel_rfl) (fun _ _ _ h => h) (Or.inl ⟨by rfl, ?t44_h⟩) (by assumption) ?t44_r
          case t44_h => (intro w hSw; (try dsimp only at hSw); go_simp; try (with_reducible rfl))
          simp only [List.set_cons_zero, List.set_cons_succ]
          refine takeH 9 32 (v := ?t45_v) rfl rfl (by kernel_rfl) (by kernel_rfl) (by kernel_rfl) (fun _ _ _ h => h) (Or.inl ⟨by rfl, ?t45_h⟩) (by assumption) ?t45_r
          case t45_h => (intro w hSw; (try dsimp only at hSw); go_simp; try (with_reducible rfl))
          simp only [List.set_cons_zero, List.set_cons_succ]
          refine takeH 10 33 (v := ?t46_v) rfl rfl (by kernel_rfl) (by kernel_rfl) (by kernel_rfl) (fun _ _ _ h => h) (Or.inl ⟨by rfl, ?t46_h⟩) (by assumption) ?t46_r
          case t46_h => (intro w hSw; (try dsimp only at hSw); go_simp; try (with_reducible rfl))
          simp only [List.set_cons_zero, List.set_cons_succ]
          have HZI : Hid ((Vl.mk zn zm zsA zsc zss zcA zcc zcs zvA zvc zvs).Inp (fun b => Dabp.heap.size ≤ b ∧ b < Dabpc.heap.size ∧ b ≠ Dab.heap.size) Dabpc) := hzi.mono fun b hP => ⟨hP.1, hP.2, by have := hP.1; have := HLT.out; omega⟩
          have qp := HPB.out
          have d0 : Dabpc.cell? ⟨Dab.heap.size, 0, none⟩ = some (.int .u64 0) := blk_cell qp 0 _ rfl
          have d1 : Dabpc.cell? ⟨Dab.heap.size, 1, none⟩ = some (.int .u64 0) := blk_cell qp 1 _ rfl
          have d2 : Dabpc.cell? ⟨Dab.heap.size, 2, none⟩ = some (.slice none 0 0) := blk_cell qp 2 _ rfl
          have d3 : Dabpc.cell? ⟨Dab.heap.size, 3, none⟩ = some (.slice none 0 0) := blk_cell qp 3 _ rfl
          have d4 : Dabpc.cell? ⟨Dab.heap.size, 4, none⟩ = some (.slice none 0 0) := blk_cell qp 4 _ rfl
          have f0 := blk_frozen qp 0
          have f1 := blk_frozen qp 1
          have f2 := blk_frozen qp 2
          have f3 := blk_frozen qp 3
          have f4 := blk_frozen qp 4
          refine wpAnyH_ready (rs := [12]) (by kernel_rfl) (by simp) ?_
          refine AllReadyH.cons rfl (fun K hK => ?_) AllReadyH.nil
          go_simp
          obtain ⟨Y, hY⟩ : ∃ Y, set5 Dabpc (Dab.heap.size) (.int .u64 zn) (.int .u64 zm) (.slice zsA zss.length zsc) (.slice zcA zcs.length zcc) (.slice zvA zvs.length zvc) = Y := ⟨_, rfl⟩
          change K _ (set5 Dabpc (Dab.heap.size) (.int .u64 zn) (.int .u64 zm) (.slice zsA zss.length zsc) (.slice zcA zcs.length zcc) (.slice zvA zvs.length zvc))
          rw [hY]
          have HMID : Hid (MidP U1 o1 (.pointer (some ⟨Dab.heap.size, 0, none⟩)) ev Y) := by rw [← hY]; exact midP_mk (z := .mk zn zm zsA zsc zss zcA zcc zcs zvA zvc zvs) qp hpb HZI.out hM HB.out hcase
          replace HB : Hid (Below U1.heap.size U1 Y) := by rw [← hY]; exact set5_bel HB.out hpb
          refine hK.out _ _ ?_ (fun hHeld => ?_)
          · exact HK.out _ HB.out
          clear hK K
          refine takeH 13 12 (v := ?t47_v) rfl rfl (by kernel_rfl) (by kernel_rfl) (by kernel_rfl) (fun _ _ _ h => h) (Or.inl ⟨by rfl, ?t47_h⟩) (by assumption) ?t47_r
          case t47_h => (intro w hSw; (try dsimp only at hSw); go_simp; try (with_reducible rfl))
          simp only [List.set_cons_zero, List.set_cons_succ]
          refine wpAnyH_done (by kernel_rfl) ?_ _
          refine NoPanic.normal ?_
          go_wp2_with fail
          go_meet
          exact ⟨HMID, rfl⟩
      case n37_b =>
        go_simp
        obtain ⟨Dap, hDap⟩ : ∃ Dap, Da.alloc (.cells #[.int .u64 0, .int .u64 0, .slice none 0 0, .slice none 0 0, .slice none 0 0] 32) = Dap := ⟨_, rfl⟩
        rw [hDap]
        have hbn : Below Da.heap.size Da Dap := by rw [← hDap]; exact allocB _ _
        have HPB : Hid (Blk Dap Da.heap.size 32 #[.int .u64 0, .int .u64 0, .slice none 0 0, .slice none 0 0, .slice none 0 0]) := by rw [← hDap]; exact Blk.new _ _ _
        have hpb : U1.heap.size ≤ Da.heap.size := HB.out.size
        replace HB : Hid (Below U1.heap.size U1 Dap) := HB.out.trans (hbn.mono HB.out.size)
        clear hbn
        refine hK.out _ _ ?_ (fun hHeld => ?_)
        · exact HK.out _ HB.out
        clear hK K
        refine wpAnyH_ready (rs := [6]) (by kernel_rfl) (by simp) ?_
        refine AllReadyH.cons rfl (fun K hK => ?_) AllReadyH.nil
        go_simp
        go_wp2_with (go_at_call 66; refine (HY1.out _ (HW.out.trans (HB.out.mono HW.out.size))).mono ?_; rintro e Dapb ⟨rfl, _, hbn⟩)
        replace HPB := Lib.hid (HPB.out.below hbn)
        replace HB : Hid (Below U1.heap.size U1 Dapb) := HB.out.trans (hbn.mono HB.out.size)
        clear hbn
        refine hK.out _ _ ?_ (fun hHeld => ?_)
        · exact HK.out _ HB.out
        clear hK K
        refine wpAnyH_ready (rs := [7]) (by kernel_rfl) (by simp) ?_
        refine AllReadyH.cons rfl (fun K hK => ?_) AllReadyH.nil
        go_simp
        have HLT : Hid (Da.heap.size < Dapb.heap.size) := HPB.out.lt
        go_wp2_with (go_at_call 29; refine (HJ1.out _ (HW.out.trans (HB.out.mono HW.out.size))).mono ?_; rintro e Dapbc hr; (obtain ⟨⟨zn, zm, zsA, zsc, zss, zcA, zcc, zcs, zvA, zvc, zvs⟩, ev, rfl, hzi, hbn, hcase⟩ := retJ_case hr; simp only [val_mk]; clear hr))
        have hM : U1.heap.size ≤ Dapb.heap.size := HB.out.size
        replace HPB := Lib.hid (HPB.out.below hbn)
        replace HB : Hid (Below U1.heap.size U1 Dapbc) := HB.out.trans (hbn.mono HB.out.size)
        refine hK.out _ _ ?_ (fun hHeld => ?_)
        · exact HK.out _ HB.out
        clear hK K
        refine takeH 8 23 (v := ?t50_v) rfl rfl (by kernel_rfl) (by kernel_rfl) (by kernel_rfl) (fun _ _ _ h => h) (Or.inl ⟨by rfl, ?t50_h⟩) (by assumption) ?t50_r
        case t50_h => (intro w hSw; (try dsimp only at hSw); go_simp; try (with_reducible rfl))
        simp only [List.set_cons_zero, List.set_cons_succ]
        refine takeH 9 32 (v := ?t51_v) rfl rfl (by kernel_rfl) (by kernel_rfl) (by kernel_rfl) (fun _ _ _ h => h) (Or.inl ⟨by rfl, ?t51_h⟩) (by assumption) ?t51_r
        case t51_h => (intro w hSw; (try dsimp only at hSw); go_simp; try (with_reducible rfl))
        simp only [List.set_cons_zero, List.set_cons_succ]
        refine takeH 10 33 (v := ?t52_v) rfl rfl (by kernel_rfl) (by kernel_rfl) (by kernel_rfl) (fun _ _ _ h => h) (Or.inl ⟨by rfl, ?t52_h⟩) (by assumption) ?t52_r
        case t52_h => (intro w hSw; (try dsimp only at hSw); go_simp; try (with_reducible rfl))
        simp only [List.set_cons_zero, List.set_cons_succ]
        have HZI : Hid ((Vl.mk zn zm zsA zsc zss zcA zcc zcs zvA zvc zvs).Inp (fun b => Dapb.heap.size ≤ b ∧ b < Dapbc.heap.size ∧ b ≠ Da.heap.size) Dapbc) := hzi.mono fun b hP => ⟨hP.1, hP.2, by have := hP.1; have := HLT.out; omega⟩
        have qp := HPB.out
        have d0 : Dapbc.cell? ⟨Da.heap.size, 0, none⟩ = some (.int .u64 0) := blk_cell qp 0 _ rfl
        have d1 : Dapbc.cell? ⟨Da.heap.size, 1, none⟩ = some (.int .u64 0) := blk_cell qp 1 _ rfl
        have d2 : Dapbc.cell? ⟨Da.heap.size, 2, none⟩ = some (.slice none 0 0) := blk_cell qp 2 _ rfl
        have d3 : Dapbc.cell? ⟨Da.heap.size, 3, none⟩ = some (.slice none 0 0) := blk_cell qp 3 _ rfl
        have d4 : Dapbc.cell? ⟨Da.heap.size, 4, none⟩ = some (.slice none 0 0) := blk_cell qp 4 _ rfl
        have f0 := blk_frozen qp 0
        have f1 := blk_frozen qp 1
        have f2 := blk_frozen qp 2
        have f3 := blk_frozen qp 3
        have f4 := blk_frozen qp 4
        refine wpAnyH_ready (rs := [12]) (by kernel_rfl) (by simp) ?_
        refine AllReadyH.cons rfl (fun K hK => ?_) AllReadyH.nil
        go_simp
        obtain ⟨Y, hY⟩ : ∃ Y, set5 Dapbc (Da.heap.size) (.int .u64 zn) (.int .u64 zm) (.slice zsA zss.length zsc) (.slice zcA zcs.length zcc) (.slice zvA zvs.length zvc) = Y := ⟨_, rfl⟩
        change K _ (set5 Dapbc (Da.heap.size) (.int .u64 zn) (.int .u64 zm) (.slice zsA zss.length zsc) (.slice zcA zcs.length zcc) (.slice zvA zvs.length zvc))
        rw [hY]
        have HMID : Hid (MidP U1 o1 (.pointer (some ⟨Da.heap.size, 0, none⟩)) ev Y) := by rw [← hY]; exact midP_mk (z := .mk zn zm zsA zsc zss zcA zcc zcs zvA zvc zvs) qp hpb HZI.out hM HB.out hcase
        replace HB : Hid (Below U1.heap.size U1 Y) := by rw [← hY]; exact set5_bel HB.out hpb
        refine hK.out _ _ ?_ (fun hHeld => ?_)
        · exact HK.out _ HB.out
        clear hK K
        refine takeH 13 12 (v := ?t53_v) rfl rfl (by kernel_rfl) (by kernel_rfl) (by kernel_rfl) (fun _ _ _ h => h) (Or.inl ⟨by rfl, ?t53_h⟩) (by assumption) ?t53_r
        case t53_h => (intro w hSw; (try dsimp only at hSw); go_simp; try (with_reducible rfl))
        simp only [List.set_cons_zero, List.set_cons_succ]
        refine wpAnyH_done (by kernel_rfl) ?_ _
        refine NoPanic.normal ?_
        go_wp2_with fail
        go_meet
        exact ⟨HMID, rfl⟩
    case n36_b =>
      go_simp
      obtain ⟨Dp, hDp⟩ : ∃ Dp, D.alloc (.cells #[.int .u64 0, .int .u64 0, .slice none 0 0, .slice none 0 0, .slice none 0 0] 32) = Dp := ⟨_, rfl⟩
      rw [hDp]
      have hbn : Below D.heap.size D Dp := by rw [← hDp]; exact allocB _ _
      have HPB : Hid (Blk Dp D.heap.size 32 #[.int .u64 0, .int .u64 0, .slice none 0 0, .slice none 0 0, .slice none 0 0]) := by rw [← hDp]; exact Blk.new _ _ _
      have hpb : U1.heap.size ≤ D.heap.size := HB.out.size
      replace HB : Hid (Below U1.heap.size U1 Dp) := HB.out.trans (hbn.mono HB.out.size)
      clear hbn
      refine hK.out _ _ ?_ (fun hHeld => ?_)
      · exact HK.out _ HB.out
      clear hK K
      refine wpAnyH_ready (rs := [3]) (by kernel_rfl) (by simp) ?_
      refine AllReadyH.cons rfl (fun K hK => ?_) AllReadyH.nil
      go_simp
      go_wp2_with (go_at_call 66; refine (HX1.out _ (HW.out.trans (HB.out.mono HW.out.size))).mono ?_; rintro e Dpa ⟨rfl, _, hbn⟩)
      replace HPB := Lib.hid (HPB.out.below hbn)
      replace HB : Hid (Below U1.heap.size U1 Dpa) := HB.out.trans (hbn.mono HB.out.size)
      clear hbn
      refine hK.out _ _ ?_ (fun hHeld => ?_)
      · exact HK.out _ HB.out
      clear hK K
      refine wpAnyH_ready (rs := [6]) (by kernel_rfl) (by simp) ?_
      refine AllReadyH.cons rfl (fun K hK => ?_) AllReadyH.nil
      go_simp
      go_wp2_with (go_at_call 66; refine (HY1.out _ (HW.out.trans (HB.out.mono HW.out.size))).mono ?_; rintro e Dpab ⟨rfl, _, hbn⟩)
      replace HPB := Lib.hid (HPB.out.below hbn)
      replace HB : Hid (Below U1.heap.size U1 Dpab) := HB.out.trans (hbn.mono HB.out.size)
      clear hbn
      refine hK.out _ _ ?_ (fun hHeld => ?_)
      · exact HK.out _ HB.out
      clear hK K
      refine wpAnyH_ready (rs := [7]) (by kernel_rfl) (by simp) ?_
      refine AllReadyH.cons rfl (fun K hK => ?_) AllReadyH.nil
      go_simp
      have HLT : Hid (D.heap.size < Dpab.heap.size) := HPB.out.lt
      go_wp2_with (go_at_call 29; refine (HJ1.out _ (HW.out.trans (HB.out.mono HW.out.size))).mono ?_; rintro e Dpabc hr; (obtain ⟨⟨zn, zm, zsA, zsc, zss, zcA, zcc, zcs, zvA, zvc, zvs⟩, ev, rfl, hzi, hbn, hcase⟩ := retJ_case hr; simp only [val_mk]; clear hr))
      have hM : U1.heap.size ≤ Dpab.heap.size := HB.out.size
      replace HPB := Lib.hid (HPB.out.below hbn)
      replace HB : Hid (Below U1.heap.size U1 Dpabc) := HB.out.trans (hbn.mono HB.out.size)
      refine hK.out _ _ ?_ (fun hHeld => ?_)
      · exact HK.out _ HB.out
      clear hK K
      refine takeH 8 23 (v := ?t57_v) rfl rfl (by kernel_rfl) (by kernel_rfl) (by kernel_rfl) (fun _ _ _ h => h) (Or.inl ⟨by rfl, ?t57_h⟩) (by assumption) ?t57_r
      case t57_h => (intro w hSw; (try dsimp only at hSw); go_simp; try (with_reducible rfl))
      simp only [List.set_cons_zero, List.set_cons_succ]
      refine takeH 9 32 (v := ?t58_v) rfl rfl (by kernel_rfl) (by kernel_rfl) (by kernel_rfl) (fun _ _ _ h => h) (Or.inl ⟨by rfl, ?t58_h⟩) (by assumption) ?t58_r
      case t58_h => (intro w hSw; (try dsimp only at hSw); go_simp; try (with_reducible rfl))
      simp only [List.set_cons_zero, List.set_cons_succ]
      refine takeH 10 33 (v := ?t59_v) rfl rfl (by kernel_rfl) (by kernel_rfl) (by kernel_rfl) (fun _ _ _ h => h) (Or.inl ⟨by rfl, ?t59_h⟩) (by assumption) ?t59_r
      case t59_h => (intro w hSw; (try dsimp only at hSw); go_simp; try (with_reducible rfl))
      simp only [List.set_cons_zero, List.set_cons_succ]
      have HZI : Hid ((Vl.mk zn zm zsA zsc zss zcA zcc zcs zvA zvc zvs).Inp (fun b => Dpab.heap.size ≤ b ∧ b < Dpabc.heap.size ∧ b ≠ D.heap.size) Dpabc) := hzi.mono fun b hP => ⟨hP.1, hP.2, by have := hP.1; have := HLT.out; omega⟩
      have qp := HPB.out
      have d0 : Dpabc.cell? ⟨D.heap.size, 0, none⟩ = some (.int .u64 0) := blk_cell qp 0 _ rfl
      have d1 : Dpabc.cell? ⟨D.heap.size, 1, none⟩ = some (.int .u64 0) := blk_cell qp 1 _ rfl
      have d2 : Dpabc.cell? ⟨D.heap.size, 2, none⟩ = some (.slice none 0 0) := blk_cell qp 2 _ rfl
      have d3 : Dpabc.cell? ⟨D.heap.size, 3, none⟩ = some (.slice none 0 0) := blk_cell qp 3 _ rfl
      have d4 : Dpabc.cell? ⟨D.heap.size, 4, none⟩ = some (.slice none 0 0) := blk_cell qp 4 _ rfl
      have f0 := blk_frozen qp 0
      have f1 := blk_frozen qp 1
      have f2 := blk_frozen qp 2
      have f3 := blk_frozen qp 3
      have f4 := blk_frozen qp 4
      refine wpAnyH_ready (rs := [12]) (by kernel_rfl) (by simp) ?_
      refine AllReadyH.cons rfl (fun K hK => ?_) AllReadyH.nil
      go_simp
      obtain ⟨Y, hY⟩ : ∃ Y, set5 Dpabc (D.heap.size) (.int .u64 zn) (.int .u64 zm) (.slice zsA zss.length zsc) (.slice zcA zcs.length zcc) (.slice zvA zvs.length zvc) = Y := ⟨_, rfl⟩
      change K _ (set5 Dpabc (D.heap.size) (.int .u64 zn) (.int .u64 zm) (.slice zsA zss.length zsc) (.slice zcA zcs.length zcc) (.slice zvA zvs.length zvc))
      rw [hY]
      have HMID : Hid (MidP U1 o1 (.pointer (some ⟨D.heap.size, 0, none⟩)) ev Y) := by rw [← hY]; exact midP_mk (z := .mk zn zm zsA zsc zss zcA zcc zcs zvA zvc zvs) qp hpb HZI.out hM HB.out hcase
      replace HB : Hid (Below U1.heap.size U1 Y) := by rw [← hY]; exact set5_bel HB.out hpb
      refine hK.out _ _ ?_ (fun hHeld => ?_)
      · exact HK.out _ HB.out
      clear hK K
      refine takeH 13 12 (v := ?t60_v) rfl rfl (by kernel_rfl) (by kernel_rfl) (by kernel_rfl) (fun _ _ _ h => h) (Or.inl ⟨by rfl, ?t60_h⟩) (by assumption) ?t60_r
      case t60_h => (intro w hSw; (try dsimp only at hSw); go_simp; try (with_reducible rfl))
      simp only [List.set_cons_zero, List.set_cons_succ]
      refine wpAnyH_done (by kernel_rfl) ?_ _
      refine NoPanic.normal ?_
      go_wp2_with fail
      go_meet
      exact ⟨HMID, rfl⟩
  obtain ⟨⟨pb, ⟨zn, zm, zsA, zsc, zss, zcA, zcc, zcs, zvA, zvc, zvs⟩, rfl, hpb, hqp, hzi, hbc, hcase⟩, rfl⟩ := hcut
  simp only [V4.Vl.n, V4.Vl.m, V4.Vl.s1, V4.Vl.c1, V4.Vl.v1] at hqp
  obtain ⟨C1, hC1⟩ : ∃ C1, wc = C1 := ⟨_, rfl⟩
  rw [hC1] at hqp hzi hbc
  rw [hC1]
  clear hC1
  have BC1 : Below w.heap.size w C1 := BU1.trans (hbc.mono BU1.size)
  replace qx := qx.below hbc
  replace qy := qy.below hbc
  replace qr := qr.below hbc
  replace qm := qm.below hbc
  clear qs
  replace HU0 : Hid ((Vl.mk un um usA usc uss ucA ucc ucs uvA uvc uvs).Inp (fun b => w.heap.size + 4 ≤ b ∧ b < C1.heap.size) C1) := (HU0.out.keep fun b hP => hbc.block b hP.2).mono fun b hP => ⟨hP.1, Nat.lt_of_lt_of_le hP.2 hbc.size⟩
  have hsC1 := hbc.size
  rcases hcase with ⟨ho, rfl⟩ | ⟨ho, rfl⟩
  · have hev : errV 13 = .iface 39 (.int .i64 13) := rfl
    rw [hev]
    have d0 : C1.cell? ⟨w.heap.size + 1 + 1, 0, none⟩ = some (.int .u64 0) := blk_cell qr 0 _ rfl
    have d1 : C1.cell? ⟨w.heap.size + 1 + 1, 1, none⟩ = some (.int .u64 0) := blk_cell qr 1 _ rfl
    have d2 : C1.cell? ⟨w.heap.size + 1 + 1, 2, none⟩ = some (.slice none 0 0) := blk_cell qr 2 _ rfl
    have d3 : C1.cell? ⟨w.heap.size + 1 + 1, 3, none⟩ = some (.slice none 0 0) := blk_cell qr 3 _ rfl
    have d4 : C1.cell? ⟨w.heap.size + 1 + 1, 4, none⟩ = some (.slice none 0 0) := blk_cell qr 4 _ rfl
    have f0 := blk_frozen qr 0
    have f1 := blk_frozen qr 1
    have f2 := blk_frozen qr 2
    have f3 := blk_frozen qr 3
    have f4 := blk_frozen qr 4
    go_wp2_with fail
    refine bodyPost_ret (results_cv rfl _ _ (w.heap.size + 1 + 1) (.int .u64 0) (.int .u64 0) (.slice none 0 0) (.slice none 0 0) (.slice none 0 0) rfl (blk_cell (set5_blk qr) 0 _ rfl) (blk_cell (set5_blk qr) 1 _ rfl) (blk_cell (set5_blk qr) 2 _ rfl) (blk_cell (set5_blk qr) 3 _ rfl) (blk_cell (set5_blk qr) 4 _ rfl)) rfl ?_
    refine .inr ⟨?_, rfl, set5_bel BC1 (by omega)⟩
    rw [HPE.out, ho]
    cases o0 <;> rfl
  have HO1 := Lib.hid ho
  clear ho
  have a0 : C1.cell? ⟨pb, 0, none⟩ = some (.int .u64 zn) := blk_cell hqp 0 _ rfl
  have a1 : C1.cell? ⟨pb, 1, none⟩ = some (.int .u64 zm) := blk_cell hqp 1 _ rfl
  have a2 : C1.cell? ⟨pb, 2, none⟩ = some (.slice zsA zss.length zsc) := blk_cell hqp 2 _ rfl
  have a3 : C1.cell? ⟨pb, 3, none⟩ = some (.slice zcA zcs.length zcc) := blk_cell hqp 3 _ rfl
  have a4 : C1.cell? ⟨pb, 4, none⟩ = some (.slice zvA zvs.length zvc) := blk_cell hqp 4 _ rfl
  have m0 : C1.cell? ⟨w.heap.size + 1 + 1 + 1, 0, none⟩ = some (.int .u64 un) := blk_cell qm 0 _ rfl
  have m1 : C1.cell? ⟨w.heap.size + 1 + 1 + 1, 1, none⟩ = some (.int .u64 um) := blk_cell qm 1 _ rfl
  have m2 : C1.cell? ⟨w.heap.size + 1 + 1 + 1, 2, none⟩ = some (.slice usA uss.length usc) := blk_cell qm 2 _ rfl
  have m3 : C1.cell? ⟨w.heap.size + 1 + 1 + 1, 3, none⟩ = some (.slice ucA ucs.length ucc) := blk_cell qm 3 _ rfl
  have m4 : C1.cell? ⟨w.heap.size + 1 + 1 + 1, 4, none⟩ = some (.slice uvA uvs.length uvc) := blk_cell qm 4 _ rfl
  have m5 : C1.cell? ⟨w.heap.size + 1 + 1 + 1, 5, none⟩ = some (.int .u64 0) := blk_cell qm 5 _ rfl
  have m6 : C1.cell? ⟨w.heap.size + 1 + 1 + 1, 6, none⟩ = some (.int .u64 0) := blk_cell qm 6 _ rfl
  have m7 : C1.cell? ⟨w.heap.size + 1 + 1 + 1, 7, none⟩ = some (.slice none 0 0) := blk_cell qm 7 _ rfl
  have m8 : C1.cell? ⟨w.heap.size + 1 + 1 + 1, 8, none⟩ = some (.slice none 0 0) := blk_cell qm 8 _ rfl
  have m9 : C1.cell? ⟨w.heap.size + 1 + 1 + 1, 9, none⟩ = some (.slice none 0 0) := blk_cell qm 9 _ rfl
  have g5 := blk_frozen qm 5
  have g6 := blk_frozen qm 6
  have g7 := blk_frozen qm 7
  have g8 := blk_frozen qm 8
  have g9 := blk_frozen qm 9
  obtain ⟨E1, hE1⟩ : ∃ E1, set5b C1 (w.heap.size + 1 + 1 + 1) (.int .u64 zn) (.int .u64 zm) (.slice zsA zss.length zsc) (.slice zcA zcs.length zcc) (.slice zvA zvs.length zvc) = E1 := ⟨_, rfl⟩
  have BE1 : Below w.heap.size w E1 := by rw [← hE1]; exact set5b_bel BC1 (by omega)
  have hsE1 : E1.heap.size ≤ C1.heap.size ∧ C1.heap.size ≤ E1.heap.size := by rw [← hE1]; exact ⟨Nat.le_of_eq set5b_size, Nat.le_of_eq set5b_size.symm⟩
  have qm2 : Blk E1 (w.heap.size + 1 + 1 + 1) 32 #[.int .u64 un, .int .u64 um, .slice usA uss.length usc, .slice ucA ucs.length ucc, .slice uvA uvs.length uvc, .int .u64 zn, .int .u64 zm, .slice zsA zss.length zsc, .slice zcA zcs.length zcc, .slice zvA zvs.length zvc] := by rw [← hE1]; exact set10b_blk qm
  replace qx : Blk E1 (w.heap.size) 32 #[.int .u64 n, .int .u64 m, .slice sA ss.length sc, .slice cA cs.length cc, .slice vA vs.length vc] := by rw [← hE1]; exact (set5b_low (by omega)).trans qx
  replace qy : Blk E1 (w.heap.size + 1) 32 #[.int .u64 n', .int .u64 m', .slice sA' ss'.length sc', .slice cA' cs'.length cc', .slice vA' vs'.length vc'] := by rw [← hE1]; exact (set5b_low (by omega)).trans qy
  replace qr : Blk E1 (w.heap.size + 1 + 1) 32 #[.int .u64 0, .int .u64 0, .slice none 0 0, .slice none 0 0, .slice none 0 0] := by rw [← hE1]; exact (set5b_low (by omega)).trans qr
  have HN1 : Hid ((Vl.mk zn zm zsA zsc zss zcA zcc zcs zvA zvc zvs).Inp (fun b => w.heap.size + 4 ≤ b ∧ b < E1.heap.size) E1) := by
    refine (hzi.keep fun b hP => ?_).mono fun b hP => ⟨by have := hP.1; omega, by have := hP.2.1; omega⟩
    rw [← hE1]; exact set5b_low (by have := hP.1; omega)
  replace HU0 : Hid ((Vl.mk un um usA usc uss ucA ucc ucs uvA uvc uvs).Inp (fun b => w.heap.size + 4 ≤ b ∧ b < E1.heap.size) E1) := by
    refine (HU0.out.keep fun b hP => ?_).mono fun b hP => ⟨hP.1, by have := hP.2; omega⟩
    rw [← hE1]; exact set5b_low (by have := hP.1; omega)
  have hE : set5b C1 (w.heap.size + 1 + 1 + 1) (.int .u64 zn) (.int .u64 zm) (.slice zsA zss.length zsc) (.slice zcA zcs.length zcc) (.slice zvA zvs.length zvc) = E1 := hE1
  unfold set5b at hE
  clear hE1 qm hzi hqp
  go_wp2_with fail
  clear hE a0 a1 a2 a3 a4 m0 m1 m2 m3 m4 m5 m6 m7 m8 m9 g5 g6 g7 g8 g9
  have qm := qm2
  clear qm2
  rw [rounds_succ]
  have d0 : E1.cell? ⟨w.heap.size + 1 + 1, 0, none⟩ = some (.int .u64 0) := blk_cell qr 0 _ rfl
  have d1 : E1.cell? ⟨w.heap.size + 1 + 1, 1, none⟩ = some (.int .u64 0) := blk_cell qr 1 _ rfl
  have d2 : E1.cell? ⟨w.heap.size + 1 + 1, 2, none⟩ = some (.slice none 0 0) := blk_cell qr 2 _ rfl
  have d3 : E1.cell? ⟨w.heap.size + 1 + 1, 3, none⟩ = some (.slice none 0 0) := blk_cell qr 3 _ rfl
  have d4 : E1.cell? ⟨w.heap.size + 1 + 1, 4, none⟩ = some (.slice none 0 0) := blk_cell qr 4 _ rfl
  have f0 := blk_frozen qr 0
  have f1 := blk_frozen qr 1
  have f2 := blk_frozen qr 2
  have f3 := blk_frozen qr 3
  have f4 := blk_frozen qr 4
  go_wp2_with fail
  refine bodyPost_ret (results_cv rfl _ _ (w.heap.size + 1 + 1) (.int .u64 0) (.int .u64 0) (.slice none 0 0) (.slice none 0 0) (.slice (some ⟨w.heap.size + 1 + 1 + 1, 0, none⟩) 2 2) rfl (blk_cell (set5_blk qr) 0 _ rfl) (blk_cell (set5_blk qr) 1 _ rfl) (blk_cell (set5_blk qr) 2 _ rfl) (blk_cell (set5_blk qr) 3 _ rfl) (blk_cell (set5_blk qr) 4 _ rfl)) rfl ?_
  refine .inl ⟨.mk 0 0 none 0 [] none 0 [] (some ⟨w.heap.size + 1 + 1 + 1, 0, none⟩) 2 [.mk un um usA usc uss ucA ucc ucs uvA uvc uvs, .mk zn zm zsA zsc zss zcA zcc zcs zvA zvc zvs], ?_, rfl, ?_, set5_bel BE1 (by omega)⟩
  · rw [HPE.out, HO0.out, HO1.out, er_mk 0 0]; rfl
  have low : ∀ b, b ≠ w.heap.size + 1 + 1 → (set5 E1 (w.heap.size + 1 + 1) (.int .u64 0) (.int .u64 0) (.slice none 0 0) (.slice none 0 0) (.slice (some ⟨w.heap.size + 1 + 1 + 1, 0, none⟩) 2 2)).heap[b]? = E1.heap[b]? := fun b h => set5_low h
  have ssz : (set5 E1 (w.heap.size + 1 + 1) (.int .u64 0) (.int .u64 0) (.slice none 0 0) (.slice none 0 0) (.slice (some ⟨w.heap.size + 1 + 1 + 1, 0, none⟩) 2 2)).heap.size = E1.heap.size := set5_size
  have hlm := qm.lt
  refine .mk _ _ _ _ _ _ _ _ _ _ _ (by omega) (by omega) (.inl rfl) (by simp) (by simp) (.inl rfl) (by simp) (by simp) (.inr ⟨w.heap.size + 1 + 1 + 1, 0, rfl, ⟨by omega, Nat.lt_of_lt_of_le hlm (Nat.le_of_eq ssz.symm)⟩, fun i u hu => ?_⟩) (by simp [maxLen]) (fun x hx => ?_)
  · rw [Nat.zero_add]
    refine (World.cell?_of_block (a := ⟨w.heap.size + 1 + 1 + 1, i, none⟩) (low (w.heap.size + 1 + 1 + 1) (by omega))).trans (blk_cell qm i u ?_)
    simpa [cellsV, V4.Vl.n, V4.Vl.m, V4.Vl.s1, V4.Vl.c1, V4.Vl.v1] using hu
  · have fin : ∀ {X : Vl}, X.Inp (fun b => w.heap.size + 4 ≤ b ∧ b < E1.heap.size) E1 → X.Inp (fun b => w.heap.size ≤ b ∧ b < (set5 E1 (w.heap.size + 1 + 1) (.int .u64 0) (.int .u64 0) (.slice none 0 0) (.slice none 0 0) (.slice (some ⟨w.heap.size + 1 + 1 + 1, 0, none⟩) 2 2)).heap.size) (set5 E1 (w.heap.size + 1 + 1) (.int .u64 0) (.int .u64 0) (.slice none 0 0) (.slice none 0 0) (.slice (some ⟨w.heap.size + 1 + 1 + 1, 0, none⟩) 2 2)) := fun {X} h => (h.keep fun b hP => low b (by have := hP.1; omega)).mono fun b hP => ⟨by have := hP.1; omega, Nat.lt_of_lt_of_le hP.2 (Nat.le_of_eq ssz.symm)⟩
    simp only [List.mem_cons, List.not_mem_nil, or_false] at hx
    rcases hx with rfl | rfl
    · exact fin HU0.out
    · exact fin HN1.out
end Go.Proofs.YtleejffjnknohaaGreat.J5

namespace Go.Proofs.YtleejffjnknohaaGreat.J5
open Go.RowKit Go.Shelf
open C3 (Tk belAl allocB)
open S2 (Sc Tr isT)
open V4 (Va Vl Ck isV botT LiesC cellsV cellsV_append val_mk er_mk)

theorem row_below {W W' : World} {base : Nat} {e : TypeId} {size : Nat} {v : Value} {n : Nat} {xs : List Value} (h : W.ownsRow base e size v n xs) (hb : Below W.heap.size W W') : W'.ownsRow base e size v n xs := row_keep h fun b hb' => hb.block b (World.ownsRow.lt h b hb').2

/-- Between the rounds: m is what has been put together so far. -/
structure RowM (w W0 : World) (sv : Array Value) (by_ : Nat) (l : List Vl) (k : Nat) (m : List Vl) (v : Value) (W : World) : Prop where
  own : W.ownsRow W0.heap.size 32 5 v m.length (cellsV m)
  sub : ∀ x ∈ m, x ∈ l
  sup : ∀ j, j < k → ∀ x, l[(j + by_) % l.length]? = some x → x ∈ m
  len : m.length ≤ 2 * k
  bel : Below W0.heap.size W0 W

theorem RowM.app {w W0 : World} {sv : Array Value} {b : Nat} {l : List Vl} {k : Nat} {m : List Vl} {v v1 : Value} {W W1 : World} {x : Vl} (h : RowM w W0 sv b l k m v W) (ho : W1.ownsRow W0.heap.size 32 5 v1 (m.length + 1) (cellsV m ++ cellsV [x])) (hb : Below W0.heap.size W0 W1) (hx : x ∈ l) (he : l[(k + b) % l.length]? = some x) : RowM w W0 sv b l (k + 1) (m ++ [x]) v1 W1 := by
  refine ⟨?_, fun y hy => ?_, fun j hj y hy => ?_, ?_, hb⟩
  · rw [cellsV_append, List.length_append]; exact ho
  · rcases List.mem_append.1 hy with h1 | h1
    · exact h.sub y h1
    · rw [List.mem_singleton.1 h1]; exact hx
  · by_cases hjk : j < k
    · exact List.mem_append.2 (.inl (h.sup j hjk y hy))
    · have : j = k := by omega
      subst this
      rw [he] at hy
      exact List.mem_append.2 (.inr (by rw [List.mem_singleton]; exact (Option.some.inj hy).symm))
  · have := h.len
    simp; omega
theorem RowM.again {w W0 : World} {sv : Array Value} {b : Nat} {l : List Vl} {k : Nat} {m : List Vl} {v v1 : Value} {W W1 : World} {x : Vl} (h : RowM w W0 sv b l k m v W) (hl : m.length + 1 ≤ 2 * k) (ho : W1.ownsRow W0.heap.size 32 5 v1 (m.length + 1) (cellsV m ++ cellsV [x])) (hb : Below W0.heap.size W0 W1) (hx : x ∈ l) : RowM w W0 sv b l k (m ++ [x]) v1 W1 := by
  refine ⟨?_, fun y hy => ?_, fun j hj y hy => List.mem_append.2 (.inl (h.sup j hj y hy)), by simp; omega, hb⟩
  · rw [cellsV_append, List.length_append]; exact ho
  · rcases List.mem_append.1 hy with h1 | h1
    · exact h.sub y h1
    · rw [List.mem_singleton.1 h1]; exact hx

theorem rot_all {l m : List Vl} {b : Nat} (hl : 0 < l.length) (h : ∀ j, j < l.length → ∀ x, l[(j + b) % l.length]? = some x → x ∈ m) : ∀ x ∈ l, x ∈ m := fun x hx => by
  obtain ⟨t, ht, e⟩ := List.getElem_of_mem hx
  have h1 : ((t + l.length - b % l.length) % l.length + b) % l.length = t := by
    have hb := Nat.mod_lt b hl
    have e2 : b = l.length * (b / l.length) + b % l.length := (Nat.div_add_mod b l.length).symm
    rw [Nat.add_mod, Nat.mod_mod, ← Nat.add_mod]
    have : t + l.length - b % l.length + b = t + l.length * (b / l.length + 1) := by rw [Nat.mul_add]; omega
    rw [this, Nat.add_mul_mod_self_left, Nat.mod_eq_of_lt ht]
  exact h _ (Nat.mod_lt _ hl) x (by rw [h1, List.getElem?_eq_getElem ht, e])

theorem one5 (x : Vl) : ∀ u ∈ ([.int .u64 x.n, .int .u64 x.m, x.s1, x.c1, x.v1] : List Value), u.oneCell' = true := by
  obtain ⟨n, m, sA, sc, ss, cA, cc, cs, vA, vc, vs⟩ := x
  intro u hu
  simp only [List.mem_cons, List.not_mem_nil, or_false] at hu
  rcases hu with rfl | rfl | rfl | rfl | rfl <;> rfl
theorem cellsV_one (x : Vl) : cellsV [x] = [.int .u64 x.n, .int .u64 x.m, x.s1, x.c1, x.v1] := by simp [cellsV]

set_option maxRecDepth 100000 in
set_option maxHeartbeats 8000000 in
theorem joinRows_all (s : Sc) (A : Option Addr) (c : Nat) (l : List Vl) (p tw : Int) (hp : 0 ≤ p ∧ p ≤ 255) (w : World) (hs : s.In w.heap.size w) (hl : LiesC (fun b => b < w.heap.size) w A (cellsV l)) (hv : ∀ v ∈ l, v.In w) (hn : l.length ≤ 9223372036854775807) :
    Calls Tryz.prog 3 #[s.val, .slice A l.length c, .int .u8 p, .int .u32 tw] w (RetV w (.bool true)) := by
  have HS := Lib.hid hs
  have HL := Lib.hid hl
  have HV := Lib.hid hv
  have HA := Lib.hid (fun A c (l : List Vl) W (hb : Below w.heap.size w W) hl hv hn => All_any True (fun _ => pairs_do) s A c l W (hs.later hb) hl hv hn (fun _ => .inl trivial))
  obtain ⟨t, ht⟩ : ∃ t, s.er = t := ⟨_, rfl⟩
  rw [ht] at HA
  clear hs hl hv ht
  obtain ⟨k0, A0, sc0, sl⟩ := s
  simp only [S2.val_mk] at HA ⊢
  obtain ⟨V, hV⟩ : ∃ V, w.alloc (.cells #[.int .i64 k0, .slice A0 sl.length sc0] 24) = V := ⟨_, rfl⟩
  have bV : Below w.heap.size w V := by rw [← hV]; exact allocB _ _
  have q0 : Blk V w.heap.size 24 #[.int .i64 k0, .slice A0 sl.length sc0] := by rw [← hV]; exact Blk.new _ _ _
  by_cases h0 : l.length = 0
  · have hz : ((l.length : Int) == 0) = true := beq_iff_eq.2 (by omega)
    clear h0
    go_enter Tryz.func3, Tryz.ntmps3
    go_wp2_with fail
    refine (known_any V).mono ?_
    rintro e W0 ⟨rfl, bW0⟩
    go_wp2_with fail
    go_ret
    exact ⟨rfl, bV.trans (bW0.mono bV.size)⟩
  by_cases h8 : 8 < l.length
  · have hz : ((l.length : Int) == 0) = false := beq_eq_false_iff_ne.2 (by omega)
    have hg : decide ((8 : Int) < (l.length : Int)) = true := decide_eq_true (by omega)
    clear h0 h8
    go_enter Tryz.func3, Tryz.ntmps3
    go_wp2_with fail
    refine (known_any V).mono ?_
    rintro e W0 ⟨rfl, bW0⟩
    go_wp2_with fail
    go_ret
    exact ⟨rfl, bV.trans (bW0.mono bV.size)⟩
  have hz : ((l.length : Int) == 0) = false := beq_eq_false_iff_ne.2 (by omega)
  have hg : decide ((8 : Int) < (l.length : Int)) = false := decide_eq_false (by omega)
  have HN : Hid (0 < l.length ∧ l.length ≤ 8) := by show _ ∧ _; omega
  clear h0 h8
  go_enter Tryz.func3, Tryz.ntmps3
  go_wp2_with fail
  refine (known_any V).mono ?_
  rintro e W0 ⟨rfl, bW0⟩
  have BW0 : Below w.heap.size w W0 := bV.trans (bW0.mono bV.size)
  have HQ0 := Lib.hid (q0.below bW0)
  clear hV bV bW0 q0
  go_wp2_with fail
  clear hz hg
  go_loopw [9, 10] (fun mv iv wr => ∃ (k : Nat) (m : List Vl), k ≤ l.length ∧ iv = .int .i64 k ∧ Hid (RowM w W0 #[.int .i64 k0, .slice A0 sl.length sc0] p.toNat l k m mv wr)) (fun _ iv _ => l.length - (intOf iv).toNat)
  case atStart => exact ⟨0, [], Nat.zero_le _, rfl, World.ownsRow_nil _ _ _ _, (fun _ h => by cases h), (fun j hj => by omega), Nat.le_refl _, Below.refl _ _⟩
  case round =>
    obtain ⟨k, m, hk, rfl, HM⟩ := hrel
    by_cases hlt : k < l.length
    · obtain ⟨t0, ht0⟩ : ∃ t0, (k + p.toNat) % l.length = t0 := ⟨_, rfl⟩
      have htl : t0 < l.length := by rw [← ht0]; exact Nat.mod_lt _ HN.out.1
      have hti : (wrap64 ((k : Int) + p)).tmod (l.length : Int) = (t0 : Int) := by
        have h8 := HN.out.2
        have e : wrap64 ((k : Int) + p) = ((k + p.toNat : Nat) : Int) := by unfold wrap64; omega
        rw [e, Int.tmod_eq_emod_of_nonneg (by omega), ← ht0]
        exact (Int.natCast_emod _ _).symm
      obtain ⟨x, hx⟩ : ∃ x, l[t0]? = some x := ⟨_, List.getElem?_eq_getElem htl⟩
      obtain ⟨b, off, rfl, hbb, c0, c1, c2, c3, c4⟩ := V4.value_at HL.out hx
      have Bwr : Below w.heap.size w wr := BW0.trans (HM.out.bel.mono BW0.size)
      have HX := Lib.hid (And.intro hx ht0)
      have HXM := Lib.hid (List.mem_of_getElem? hx)
      obtain ⟨x0, hx0⟩ : ∃ x0, x = x0 := ⟨_, rfl⟩
      have HX0 := Lib.hid hx0
      have h5 := one5 x
      have hc1 := cellsV_one x
      rw [hx0] at HX HXM hc1
      clear hx hx0 ht0
      obtain ⟨kn, km, ksA, ksc, kss, kcA, kcc, kcs, kvA, kvc, kvs⟩ := x
      simp only [V4.Vl.n, V4.Vl.m, V4.Vl.s1, V4.Vl.c1, V4.Vl.v1] at c0 c1 c2 c3 c4 h5
      have HC1 : Hid (cellsV [x0] = [.int .u64 kn, .int .u64 km, .slice ksA kss.length ksc, .slice kcA kcs.length kcc, .slice kvA kvs.length kvc]) := by show _ = _; rw [hc1, ← HX0.out]; rfl
      have H5 := Lib.hid h5
      clear hc1 h5
      replace c0 := (Bwr.cell (p := ⟨b, off + t0 * 5, none⟩) hbb).trans c0
      replace c1 := (Bwr.cell (p := ⟨b, off + t0 * 5 + 1, none⟩) hbb).trans c1
      replace c2 := (Bwr.cell (p := ⟨b, off + t0 * 5 + 2, none⟩) hbb).trans c2
      replace c3 := (Bwr.cell (p := ⟨b, off + t0 * 5 + 3, none⟩) hbb).trans c3
      replace c4 := (Bwr.cell (p := ⟨b, off + t0 * 5 + 4, none⟩) hbb).trans c4
      obtain ⟨Y, hY⟩ : ∃ Y, wr.alloc (.cells #[.int .u64 kn, .int .u64 km, .slice ksA kss.length ksc, .slice kcA kcs.length kcc, .slice kvA kvs.length kvc] 32) = Y := ⟨_, rfl⟩
      have bY : Below wr.heap.size wr Y := by rw [← hY]; exact allocB _ _
      have qY : Blk Y wr.heap.size 32 #[.int .u64 kn, .int .u64 km, .slice ksA kss.length ksc, .slice kcA kcs.length kcc, .slice kvA kvs.length kvc] := by rw [← hY]; exact Blk.new _ _ _
      have y0 : Y.cell? ⟨wr.heap.size, 0, none⟩ = some (.int .u64 kn) := blk_cell qY 0 _ rfl
      have y1 : Y.cell? ⟨wr.heap.size, 1, none⟩ = some (.int .u64 km) := blk_cell qY 1 _ rfl
      have y2 : Y.cell? ⟨wr.heap.size, 2, none⟩ = some (.slice ksA kss.length ksc) := blk_cell qY 2 _ rfl
      have y3 : Y.cell? ⟨wr.heap.size, 3, none⟩ = some (.slice kcA kcs.length kcc) := blk_cell qY 3 _ rfl
      have y4 : Y.cell? ⟨wr.heap.size, 4, none⟩ = some (.slice kvA kvs.length kvc) := blk_cell qY 4 _ rfl
      obtain ⟨Z, hZ⟩ : ∃ Z, Y.alloc (.cells #[.int .u64 kn, .int .u64 km, .slice ksA kss.length ksc, .slice kcA kcs.length kcc, .slice kvA kvs.length kvc] 32) = Z := ⟨_, rfl⟩
      have bZ : Below Y.heap.size Y Z := by rw [← hZ]; exact allocB _ _
      have qZ : Blk Z Y.heap.size 32 #[.int .u64 kn, .int .u64 km, .slice ksA kss.length ksc, .slice kcA kcs.length kcc, .slice kvA kvs.length kvc] := by rw [← hZ]; exact Blk.new _ _ _
      have HCZ : Hid (∀ j u, ([.int .u64 kn, .int .u64 km, .slice ksA kss.length ksc, .slice kcA kcs.length kcc, .slice kvA kvs.length kvc] : List Value)[j]? = some u → Z.cell? ((⟨Y.heap.size, 0, none⟩ : Addr).add j) = some u) := fun j u hu => by
        have := blk_cell qZ j u (by simpa using hu)
        cases j <;> simpa [Addr.add] using this
      have HOZ := Lib.hid (row_below (row_below HM.out.own bY) bZ)
      have hm16 : m.length ≤ 16 := by have := HM.out.len; have := HN.out.2; omega
      obtain ⟨i0, hi, hz0, hz1, hz2⟩ := info_parts Tryz.infoVal
      have HI := Lib.hid (And.intro hi (And.intro hz0 (And.intro hz1 hz2)))
      have hbase : W0.heap.size ≤ wr.heap.size := HM.out.bel.size
      have hsY := bY.size
      have hsZ := bZ.size
      clear hi hz0 hz1 hz2
      go_wp2_with (at_builtin; refine S2.wpList_appAt _ rfl (.tmp 42) (.tmp 44) 25 rfl W0.heap.size 32 i0 (.agg #[.int .u64 0, .int .u64 0, .slice none 0 0, .slice none 0 0, .slice none 0 0]) 5 88 Tryz.underlying25 HI.out.1 HI.out.2.1 HI.out.2.2.1 HI.out.2.2.2 rfl (by decide) _ m.length (cellsV m) rfl HOZ.out ⟨Y.heap.size, 0, none⟩ 1 1 [.int .u64 kn, .int .u64 km, .slice ksA kss.length ksc, .slice kcA kcs.length kcc, .slice kvA kvs.length kvc] rfl rfl HCZ.out H5.out ?q1 ?q2 ?q3 ?_)
      case q1 => unfold maxLen; omega
      case q2 => omega
      case q3 => omega
      intro v1 W1 hown1 hg1 hob1
      clear y0 y1 y2 y3 y4 c0 c1 c2 c3 c4 hti hY hZ
      have bWZ : Below W0.heap.size W0 Z := (HM.out.bel.trans (bY.mono HM.out.bel.size)).trans (bZ.mono (Nat.le_trans HM.out.bel.size bY.size))
      have bW1 : Below W0.heap.size W0 W1 := bWZ.grown hg1 bWZ.size fun k hk => (World.ownsRow.lt HOZ.out k hk).1
      have ne1 : some wr.heap.size ≠ u9.ownBlock := fun e => by have := (World.ownsRow.lt HM.out.own _ e.symm).2; omega
      have qY1 : Blk W1 wr.heap.size 32 #[.int .u64 kn, .int .u64 km, .slice ksA kss.length ksc, .slice kcA kcs.length kcc, .slice kvA kvs.length kvc] := (hg1.block wr.heap.size (by have := qY.lt; omega) ne1).trans (qY.below bZ)
      have HM1 : Hid (RowM w W0 #[.int .i64 k0, .slice A0 sl.length sc0] p.toNat l (k + 1) (m ++ [x0]) v1 W1) := HM.out.app (by rw [HC1.out]; exact hown1) bW1 HXM.out (by rw [HX.out.2]; exact HX.out.1)
      obtain ⟨bt, hbt⟩ : ∃ bt, (bits BinOp.and IntKind.u32 (tw / 2 ^ min k 32) 1 == 1) = bt := ⟨_, rfl⟩
      cases bt with
      | false =>
        clear hown1 hg1 hob1
        go_wp2_with fail
        go_roundw
        case rel => exact ⟨k + 1, m ++ [x0], by omega, by go_num, HM1⟩
        case measure => simp [intOf]; omega
      | true =>
        have y0 : W1.cell? ⟨wr.heap.size, 0, none⟩ = some (.int .u64 kn) := blk_cell qY1 0 _ rfl
        have y1 : W1.cell? ⟨wr.heap.size, 1, none⟩ = some (.int .u64 km) := blk_cell qY1 1 _ rfl
        have y2 : W1.cell? ⟨wr.heap.size, 2, none⟩ = some (.slice ksA kss.length ksc) := blk_cell qY1 2 _ rfl
        have y3 : W1.cell? ⟨wr.heap.size, 3, none⟩ = some (.slice kcA kcs.length kcc) := blk_cell qY1 3 _ rfl
        have y4 : W1.cell? ⟨wr.heap.size, 4, none⟩ = some (.slice kvA kvs.length kvc) := blk_cell qY1 4 _ rfl
        obtain ⟨Z2, hZ2⟩ : ∃ Z2, W1.alloc (.cells #[.int .u64 kn, .int .u64 km, .slice ksA kss.length ksc, .slice kcA kcs.length kcc, .slice kvA kvs.length kvc] 32) = Z2 := ⟨_, rfl⟩
        have bZ2 : Below W1.heap.size W1 Z2 := by rw [← hZ2]; exact allocB _ _
        have qZ2 : Blk Z2 W1.heap.size 32 #[.int .u64 kn, .int .u64 km, .slice ksA kss.length ksc, .slice kcA kcs.length kcc, .slice kvA kvs.length kvc] := by rw [← hZ2]; exact Blk.new _ _ _
        have HCZ2 : Hid (∀ j u, ([.int .u64 kn, .int .u64 km, .slice ksA kss.length ksc, .slice kcA kcs.length kcc, .slice kvA kvs.length kvc] : List Value)[j]? = some u → Z2.cell? ((⟨W1.heap.size, 0, none⟩ : Addr).add j) = some u) := fun j u hu => by
          have := blk_cell qZ2 j u (by simpa using hu)
          cases j <;> simpa [Addr.add] using this
        have HOZ2 := Lib.hid (row_below hown1 bZ2)
        have hbase1 := bW1.size
        have hsZ2 := bZ2.size
        clear hg1 hob1 hown1
        go_wp2_with (at_builtin; refine S2.wpList_appAt _ rfl (.tmp 52) (.tmp 54) 25 rfl W0.heap.size 32 i0 (.agg #[.int .u64 0, .int .u64 0, .slice none 0 0, .slice none 0 0, .slice none 0 0]) 5 88 Tryz.underlying25 HI.out.1 HI.out.2.1 HI.out.2.2.1 HI.out.2.2.2 rfl (by decide) v1 (m.length + 1) (cellsV m ++ [.int .u64 kn, .int .u64 km, .slice ksA kss.length ksc, .slice kcA kcs.length kcc, .slice kvA kvs.length kvc]) rfl HOZ2.out ⟨W1.heap.size, 0, none⟩ 1 1 [.int .u64 kn, .int .u64 km, .slice ksA kss.length ksc, .slice kcA kcs.length kcc, .slice kvA kvs.length kvc] rfl rfl HCZ2.out H5.out ?q1 ?q2 ?q3 ?_)
        case q1 => unfold maxLen; omega
        case q2 => omega
        case q3 => omega
        intro v2 W2 hown2 hg2 hob2
        have bWZ2 : Below W0.heap.size W0 Z2 := bW1.trans (bZ2.mono bW1.size)
        have bW2 : Below W0.heap.size W0 W2 := bWZ2.grown hg2 bWZ2.size fun k hk => (World.ownsRow.lt HOZ2.out k hk).1
        have HM2 : Hid (RowM w W0 #[.int .i64 k0, .slice A0 sl.length sc0] p.toNat l (k + 1) (m ++ [x0] ++ [x0]) v2 W2) := HM1.out.again (by have := HM.out.len; simp; omega) (by rw [cellsV_append, HC1.out]; simpa using hown2) bW2 HXM.out
        clear hown2 hg2 hob2 hZ2 y0 y1 y2 y3 y4
        go_wp2_with fail
        go_roundw
        case rel => exact ⟨k + 1, m ++ [x0] ++ [x0], by omega, by go_num, HM2⟩
        case measure => simp [intOf]; omega
    · have hkk : k = l.length := by omega
      have Bwr : Below w.heap.size w wr := BW0.trans (HM.out.bel.mono BW0.size)
      have hbig : l.length ≤ 1000000 := by have := HN.out.2; omega
      have hbm : m.length ≤ 1000000 := by have := HM.out.len; have := HN.out.2; omega
      have qs := HQ0.out.below (W' := wr) HM.out.bel
      have HALL : Hid (∀ x, x ∈ l ↔ x ∈ m) := fun x => ⟨rot_all HN.out.1 (fun j hj => HM.out.sup j (by omega)) x, HM.out.sub x⟩
      obtain ⟨A9, c9, hu9, _⟩ := row_form HM.out.own
      have HLM := Lib.hid (row_lies (hu9 ▸ HM.out.own)).1
      subst hu9
      have HMS := Lib.hid HM.out.sub
      clear HM
      have e0 : wr.cell? ⟨w.heap.size, 0, none⟩ = some (.int .i64 k0) := blk_cell qs 0 _ rfl
      have e1 : wr.cell? ⟨w.heap.size, 1, none⟩ = some (.slice A0 sl.length sc0) := blk_cell qs 1 _ rfl
      have HA1 := Lib.hid (HA.out A c l wr Bwr ((HL.out.below Bwr).mono fun _ h => Nat.lt_of_lt_of_le h Bwr.size) (fun v hv => (HV.out v hv).later Bwr) hbig)
      go_wp2_with fail
      refine HA1.out.mono ?_
      rintro e U1 hr1
      obtain ⟨⟨gn, gm, gsA, gsc, gss, gcA, gcc, gcs, gvA, gvc, gvs⟩, ev1, rfl, hgi, bU1, hc1⟩ := retK_case hr1
      simp only [val_mk]
      have I1 := inn hgi
      clear hr1 hgi HA1 e0 e1
      obtain ⟨W3, hW3⟩ : ∃ W3, U1.alloc (.cells #[.int .u64 gn, .int .u64 gm, .slice gsA gss.length gsc, .slice gcA gcs.length gcc, .slice gvA gvs.length gvc] 32) = W3 := ⟨_, rfl⟩
      have bW3 : Below U1.heap.size U1 W3 := by rw [← hW3]; exact allocB _ _
      have X12 : V4.Bxd W3 U1.heap.size #[.int .u64 gn, .int .u64 gm, .slice gsA gss.length gsc, .slice gcA gcs.length gcc, .slice gvA gvs.length gvc] := by rw [← hW3]; exact V4.Bxd.new
      have bU3 : Below wr.heap.size wr W3 := bU1.trans (bW3.mono bU1.size)
      have B3 : Below w.heap.size w W3 := Bwr.trans (bU3.mono Bwr.size)
      replace I1 := I1.later bW3
      replace qs := qs.below bU3
      have e0 : W3.cell? ⟨w.heap.size, 0, none⟩ = some (.int .i64 k0) := blk_cell qs 0 _ rfl
      have e1 : W3.cell? ⟨w.heap.size, 1, none⟩ = some (.slice A0 sl.length sc0) := blk_cell qs 1 _ rfl
      have HA2 := Lib.hid (HA.out A9 c9 m W3 B3 ((HLM.out.keep fun b hP => bU3.block b hP.2).mono fun _ h => Nat.lt_of_lt_of_le h.2 bU3.size) (fun v hv => (HV.out v (HMS.out v hv)).later B3) hbm)
      go_wp2_with fail
      refine HA2.out.mono ?_
      rintro e U2 hr2
      obtain ⟨⟨qn, qm, qsA, qsc, qss, qcA, qcc, qcs, qvA, qvc, qvs⟩, ev2, rfl, hqi, bU2, hc2⟩ := retK_case hr2
      simp only [val_mk]
      have I2 := inn hqi
      clear hr2 hqi HA2 e0 e1 hW3
      obtain ⟨W4, hW4⟩ : ∃ W4, U2.alloc (.cells #[.int .u64 qn, .int .u64 qm, .slice qsA qss.length qsc, .slice qcA qcs.length qcc, .slice qvA qvs.length qvc] 32) = W4 := ⟨_, rfl⟩
      have bW4 : Below U2.heap.size U2 W4 := by rw [← hW4]; exact allocB _ _
      have X14 : V4.Bxd W4 U2.heap.size #[.int .u64 qn, .int .u64 qm, .slice qsA qss.length qsc, .slice qcA qcs.length qcc, .slice qvA qvs.length qvc] := by rw [← hW4]; exact V4.Bxd.new
      have b34 : Below W3.heap.size W3 W4 := bU2.trans (bW4.mono bU2.size)
      replace I1 := I1.later b34
      replace I2 := I2.later bW4
      replace X12 := X12.later b34
      have HBC : Hid (Below w.heap.size w W4) := B3.trans (b34.mono B3.size)
      have a0 : W4.cell? ⟨U1.heap.size, 0, none⟩ = some (.int .u64 gn) := X12.2 0 _ rfl
      have a1 : W4.cell? ⟨U1.heap.size, 1, none⟩ = some (.int .u64 gm) := X12.2 1 _ rfl
      have a2 : W4.cell? ⟨U1.heap.size, 2, none⟩ = some (.slice gsA gss.length gsc) := X12.2 2 _ rfl
      have a3 : W4.cell? ⟨U1.heap.size, 3, none⟩ = some (.slice gcA gcs.length gcc) := X12.2 3 _ rfl
      have a4 : W4.cell? ⟨U1.heap.size, 4, none⟩ = some (.slice gvA gvs.length gvc) := X12.2 4 _ rfl
      have b0 : W4.cell? ⟨U2.heap.size, 0, none⟩ = some (.int .u64 qn) := X14.2 0 _ rfl
      have b1 : W4.cell? ⟨U2.heap.size, 1, none⟩ = some (.int .u64 qm) := X14.2 1 _ rfl
      have b2 : W4.cell? ⟨U2.heap.size, 2, none⟩ = some (.slice qsA qss.length qsc) := X14.2 2 _ rfl
      have b3 : W4.cell? ⟨U2.heap.size, 3, none⟩ = some (.slice qcA qcs.length qcc) := X14.2 3 _ rfl
      have b4 : W4.cell? ⟨U2.heap.size, 4, none⟩ = some (.slice qvA qvs.length qvc) := X14.2 4 _ rfl
      have HNN : Hid (∀ v ∈ l.map Vl.er, Nn v) := fun v hv => by
        obtain ⟨x, hx, rfl⟩ := List.mem_map.1 hv
        exact Nn.of_inp (HV.out x hx)
      have HEQ : Hid (∀ v, v ∈ l.map Vl.er ↔ v ∈ m.map Vl.er) := fun v => by
        rw [List.mem_map, List.mem_map]
        exact ⟨fun ⟨x, hx, e⟩ => ⟨x, (HALL.out x).1 hx, e⟩, fun ⟨x, hx, e⟩ => ⟨x, (HALL.out x).2 hx, e⟩⟩
      have HNI := Lib.hid (fun W => is_nil 14 W)
      have HE3 := Lib.hid (fun W => is_any 13 14 W)
      have HE4 := Lib.hid (fun W => is_any 14 14 W)
      rw [decide_eq_true rfl] at HE4
      rw [decide_eq_false (by decide)] at HE3
      have he13 : errV 13 = .iface 39 (.int .i64 13) := rfl
      have he14 : errV 14 = .iface 39 (.int .i64 14) := rfl
      rw [he14] at HNI HE4
      rw [he13, he14] at HE3
      rcases hc1 with ⟨r1, rfl⟩ | ⟨n1, r1, hz1, rfl⟩ <;> rcases hc2 with ⟨r2, rfl⟩ | ⟨n2, r2, hz2, rfl⟩
      · have HSM : Hid ((Vl.mk gn gm gsA gsc gss gcA gcc gcs gvA gvc gvs).er = (Vl.mk qn qm qsA qsc qss qcA qcc qcs qvA qvc qvs).er) := allF_same r1 r2 HNN.out HEQ.out
        clear r1 r2
        go_wp2_with (first | (go_at_call 13; refine (HNI.out _).mono ?_; rintro e Wn ⟨rfl, hbn⟩; (replace X12 := X12.later hbn; replace X14 := X14.later hbn; replace I1 := I1.later hbn; replace I2 := I2.later hbn; replace HBC := Lib.hid (HBC.out.trans (hbn.mono HBC.out.size)); replace a0 : Wn.cell? ⟨U1.heap.size, 0, none⟩ = some (.int .u64 gn) := X12.2 0 _ rfl; replace a1 : Wn.cell? ⟨U1.heap.size, 1, none⟩ = some (.int .u64 gm) := X12.2 1 _ rfl; replace a2 : Wn.cell? ⟨U1.heap.size, 2, none⟩ = some (.slice gsA gss.length gsc) := X12.2 2 _ rfl; replace a3 : Wn.cell? ⟨U1.heap.size, 3, none⟩ = some (.slice gcA gcs.length gcc) := X12.2 3 _ rfl; replace a4 : Wn.cell? ⟨U1.heap.size, 4, none⟩ = some (.slice gvA gvs.length gvc) := X12.2 4 _ rfl; replace b0 : Wn.cell? ⟨U2.heap.size, 0, none⟩ = some (.int .u64 qn) := X14.2 0 _ rfl; replace b1 : Wn.cell? ⟨U2.heap.size, 1, none⟩ = some (.int .u64 qm) := X14.2 1 _ rfl; replace b2 : Wn.cell? ⟨U2.heap.size, 2, none⟩ = some (.slice qsA qss.length qsc) := X14.2 2 _ rfl; replace b3 : Wn.cell? ⟨U2.heap.size, 3, none⟩ = some (.slice qcA qcs.length qcc) := X14.2 3 _ rfl; replace b4 : Wn.cell? ⟨U2.heap.size, 4, none⟩ = some (.slice qvA qvs.length qvc) := X14.2 4 _ rfl; clear hbn)) | (go_at_call 13; refine (HE3.out _).mono ?_; rintro e Wn ⟨rfl, hbn⟩; (replace X12 := X12.later hbn; replace X14 := X14.later hbn; replace I1 := I1.later hbn; replace I2 := I2.later hbn; replace HBC := Lib.hid (HBC.out.trans (hbn.mono HBC.out.size)); replace a0 : Wn.cell? ⟨U1.heap.size, 0, none⟩ = some (.int .u64 gn) := X12.2 0 _ rfl; replace a1 : Wn.cell? ⟨U1.heap.size, 1, none⟩ = some (.int .u64 gm) := X12.2 1 _ rfl; replace a2 : Wn.cell? ⟨U1.heap.size, 2, none⟩ = some (.slice gsA gss.length gsc) := X12.2 2 _ rfl; replace a3 : Wn.cell? ⟨U1.heap.size, 3, none⟩ = some (.slice gcA gcs.length gcc) := X12.2 3 _ rfl; replace a4 : Wn.cell? ⟨U1.heap.size, 4, none⟩ = some (.slice gvA gvs.length gvc) := X12.2 4 _ rfl; replace b0 : Wn.cell? ⟨U2.heap.size, 0, none⟩ = some (.int .u64 qn) := X14.2 0 _ rfl; replace b1 : Wn.cell? ⟨U2.heap.size, 1, none⟩ = some (.int .u64 qm) := X14.2 1 _ rfl; replace b2 : Wn.cell? ⟨U2.heap.size, 2, none⟩ = some (.slice qsA qss.length qsc) := X14.2 2 _ rfl; replace b3 : Wn.cell? ⟨U2.heap.size, 3, none⟩ = some (.slice qcA qcs.length qcc) := X14.2 3 _ rfl; replace b4 : Wn.cell? ⟨U2.heap.size, 4, none⟩ = some (.slice qvA qvs.length qvc) := X14.2 4 _ rfl; clear hbn)) | (go_at_call 13; refine (HE4.out _).mono ?_; rintro e Wn ⟨rfl, hbn⟩; (replace X12 := X12.later hbn; replace X14 := X14.later hbn; replace I1 := I1.later hbn; replace I2 := I2.later hbn; replace HBC := Lib.hid (HBC.out.trans (hbn.mono HBC.out.size)); replace a0 : Wn.cell? ⟨U1.heap.size, 0, none⟩ = some (.int .u64 gn) := X12.2 0 _ rfl; replace a1 : Wn.cell? ⟨U1.heap.size, 1, none⟩ = some (.int .u64 gm) := X12.2 1 _ rfl; replace a2 : Wn.cell? ⟨U1.heap.size, 2, none⟩ = some (.slice gsA gss.length gsc) := X12.2 2 _ rfl; replace a3 : Wn.cell? ⟨U1.heap.size, 3, none⟩ = some (.slice gcA gcs.length gcc) := X12.2 3 _ rfl; replace a4 : Wn.cell? ⟨U1.heap.size, 4, none⟩ = some (.slice gvA gvs.length gvc) := X12.2 4 _ rfl; replace b0 : Wn.cell? ⟨U2.heap.size, 0, none⟩ = some (.int .u64 qn) := X14.2 0 _ rfl; replace b1 : Wn.cell? ⟨U2.heap.size, 1, none⟩ = some (.int .u64 qm) := X14.2 1 _ rfl; replace b2 : Wn.cell? ⟨U2.heap.size, 2, none⟩ = some (.slice qsA qss.length qsc) := X14.2 2 _ rfl; replace b3 : Wn.cell? ⟨U2.heap.size, 3, none⟩ = some (.slice qcA qcs.length qcc) := X14.2 3 _ rfl; replace b4 : Wn.cell? ⟨U2.heap.size, 4, none⟩ = some (.slice qvA qvs.length qvc) := X14.2 4 _ rfl; clear hbn)) | (go_at_call 14; refine (V4.refSameV_any (Vl.mk gn gm gsA gsc gss gcA gcc gcs gvA gvc gvs) (Vl.mk qn qm qsA qsc qss qcA qcc qcs qvA qvc qvs) _ I1 I2).mono ?_; rintro e Wn ⟨rfl, hbn⟩; rw [decide_eq_true HSM.out]; (replace X12 := X12.later hbn; replace X14 := X14.later hbn; replace I1 := I1.later hbn; replace I2 := I2.later hbn; replace HBC := Lib.hid (HBC.out.trans (hbn.mono HBC.out.size)); replace a0 : Wn.cell? ⟨U1.heap.size, 0, none⟩ = some (.int .u64 gn) := X12.2 0 _ rfl; replace a1 : Wn.cell? ⟨U1.heap.size, 1, none⟩ = some (.int .u64 gm) := X12.2 1 _ rfl; replace a2 : Wn.cell? ⟨U1.heap.size, 2, none⟩ = some (.slice gsA gss.length gsc) := X12.2 2 _ rfl; replace a3 : Wn.cell? ⟨U1.heap.size, 3, none⟩ = some (.slice gcA gcs.length gcc) := X12.2 3 _ rfl; replace a4 : Wn.cell? ⟨U1.heap.size, 4, none⟩ = some (.slice gvA gvs.length gvc) := X12.2 4 _ rfl; replace b0 : Wn.cell? ⟨U2.heap.size, 0, none⟩ = some (.int .u64 qn) := X14.2 0 _ rfl; replace b1 : Wn.cell? ⟨U2.heap.size, 1, none⟩ = some (.int .u64 qm) := X14.2 1 _ rfl; replace b2 : Wn.cell? ⟨U2.heap.size, 2, none⟩ = some (.slice qsA qss.length qsc) := X14.2 2 _ rfl; replace b3 : Wn.cell? ⟨U2.heap.size, 3, none⟩ = some (.slice qcA qcs.length qcc) := X14.2 3 _ rfl; replace b4 : Wn.cell? ⟨U2.heap.size, 4, none⟩ = some (.slice qvA qvs.length qvc) := X14.2 4 _ rfl; clear hbn)))
        go_ret
        exact ⟨by simp, HBC.out⟩
      · obtain rfl : n2 = 13 := allF_err r2 r1 (fun v hv => HNN.out v ((HEQ.out v).2 hv)) fun v => (HEQ.out v).symm
        rw [he13]
        clear r1 r2 hz2 a0 a1 a2 a3 a4 b0 b1 b2 b3 b4 X12 X14 I1 I2
        go_wp2_with fail
        refine (HNI.out _).mono ?_
        rintro e Wn ⟨rfl, hbn⟩
        replace HBC := Lib.hid (HBC.out.trans (hbn.mono HBC.out.size))
        clear hbn
        go_wp2_with fail
        refine (HE3.out _).mono ?_
        rintro e Wn ⟨rfl, hbn⟩
        replace HBC := Lib.hid (HBC.out.trans (hbn.mono HBC.out.size))
        clear hbn
        go_wp2_with fail
        go_ret
        exact ⟨by simp, HBC.out⟩
      · obtain rfl : n1 = 13 := allF_err r1 r2 HNN.out HEQ.out
        rw [he13]
        clear r1 r2 hz1 a0 a1 a2 a3 a4 b0 b1 b2 b3 b4 X12 X14 I1 I2
        go_wp2_with fail
        refine (HE3.out _).mono ?_
        rintro e Wn ⟨rfl, hbn⟩
        replace HBC := Lib.hid (HBC.out.trans (hbn.mono HBC.out.size))
        clear hbn
        go_wp2_with fail
        refine (HNI.out _).mono ?_
        rintro e Wn ⟨rfl, hbn⟩
        replace HBC := Lib.hid (HBC.out.trans (hbn.mono HBC.out.size))
        clear hbn
        go_wp2_with fail
        go_ret
        exact ⟨by simp, HBC.out⟩
      · have k1 := allF_num r1 HNN.out
        have k2 := allF_num r2 fun v hv => HNN.out v ((HEQ.out v).2 hv)
        clear r1 r2 hz1 hz2 a0 a1 a2 a3 a4 b0 b1 b2 b3 b4 X12 X14 I1 I2
        rcases k1 with rfl | rfl <;> rcases k2 with rfl | rfl <;> simp only [he13, he14]
        · go_wp2_with fail
          refine (HE3.out _).mono ?_
          rintro e Wn ⟨rfl, hbn⟩
          replace HBC := Lib.hid (HBC.out.trans (hbn.mono HBC.out.size))
          clear hbn
          go_wp2_with fail
          refine (HE3.out _).mono ?_
          rintro e Wn ⟨rfl, hbn⟩
          replace HBC := Lib.hid (HBC.out.trans (hbn.mono HBC.out.size))
          clear hbn
          go_wp2_with fail
          go_ret
          exact ⟨by simp, HBC.out⟩
        · go_wp2_with fail
          refine (HE3.out _).mono ?_
          rintro e Wn ⟨rfl, hbn⟩
          replace HBC := Lib.hid (HBC.out.trans (hbn.mono HBC.out.size))
          clear hbn
          go_wp2_with fail
          refine (HE4.out _).mono ?_
          rintro e Wn ⟨rfl, hbn⟩
          replace HBC := Lib.hid (HBC.out.trans (hbn.mono HBC.out.size))
          clear hbn
          go_wp2_with fail
          refine (HE3.out _).mono ?_
          rintro e Wn ⟨rfl, hbn⟩
          replace HBC := Lib.hid (HBC.out.trans (hbn.mono HBC.out.size))
          clear hbn
          go_wp2_with fail
          go_ret
          exact ⟨by simp, HBC.out⟩
        · go_wp2_with fail
          refine (HE4.out _).mono ?_
          rintro e Wn ⟨rfl, hbn⟩
          replace HBC := Lib.hid (HBC.out.trans (hbn.mono HBC.out.size))
          clear hbn
          go_wp2_with fail
          refine (HE4.out _).mono ?_
          rintro e Wn ⟨rfl, hbn⟩
          replace HBC := Lib.hid (HBC.out.trans (hbn.mono HBC.out.size))
          clear hbn
          go_wp2_with fail
          refine (HE3.out _).mono ?_
          rintro e Wn ⟨rfl, hbn⟩
          replace HBC := Lib.hid (HBC.out.trans (hbn.mono HBC.out.size))
          clear hbn
          go_wp2_with fail
          go_ret
          exact ⟨by simp, HBC.out⟩
        · go_wp2_with fail
          refine (HE4.out _).mono ?_
          rintro e Wn ⟨rfl, hbn⟩
          replace HBC := Lib.hid (HBC.out.trans (hbn.mono HBC.out.size))
          clear hbn
          go_wp2_with fail
          refine (HE4.out _).mono ?_
          rintro e Wn ⟨rfl, hbn⟩
          replace HBC := Lib.hid (HBC.out.trans (hbn.mono HBC.out.size))
          clear hbn
          go_wp2_with fail
          refine (HE4.out _).mono ?_
          rintro e Wn ⟨rfl, hbn⟩
          replace HBC := Lib.hid (HBC.out.trans (hbn.mono HBC.out.size))
          clear hbn
          go_wp2_with fail
          go_ret
          exact ⟨by simp, HBC.out⟩
end Go.Proofs.YtleejffjnknohaaGreat.J5

namespace Go.Proofs.YtleejffjnknohaaGreat.S2
open Go.ChangeShapes Go.WideShapes Go.ChangeAt Go.RowKit Go.Deep

theorem Tryz.own : ownKnob Tryz.prog.godebug = none := by kernel_rfl
theorem Tryz.cellsInt : Tryz.prog.cellsOf 3 = 1 := by kernel_rfl
theorem Tryz.cellsSl : Tryz.prog.cellsOf 22 = 1 := by kernel_rfl
theorem Tryz.cellsSch : Tryz.prog.cellsOf 24 = 2 := by kernel_rfl
theorem Tryz.bytesSch : Tryz.prog.bytesOf 24 = 32 := by kernel_rfl

instance : Inhabited Sc := ⟨.mk 0 none 0 []⟩

theorem weightsAll_mem {H : Type} {P : Program} {e : TypeId} {d : DataW H} {n : Nat} : ∀ {ds : List (DataW H)}, d ∈ ds → n ∈ d.weights P e → n ∈ DataW.weightsAll P e ds
  | x :: ds, h, hn => by
    rw [DataW.weightsAll, List.mem_append]
    rcases List.mem_cons.1 h with rfl | h
    · exact .inl hn
    · exact .inr (weightsAll_mem h hn)

section
variable {H : Type} {enc : TypeId × Value → H} {W : World}

theorem open_schL (m : Nat) : ∀ (d : DataW H) (fuel : Nat) (v : Value) (ps : List MemPlace), SizeOf.sizeOf d ≤ m → DataW.trod enc Tryz.prog W 0 (fun _ => true) true fuel 22 [v] = some (d, ps) →
    (∀ n ∈ d.weights Tryz.prog 22, n ≤ reachBytes) → ∃ A c l, v = .slice A l.length c ∧ ∀ k, (Sc.mk k A c l).In W.heap.size W := by
  induction m with
  | zero =>
    intro d fuel v ps hm
    cases d <;> simp at hm
  | succ m ih =>
    intro d fuel v ps hm h hw
    rcases open_slice_pairs Tryz.underlying22 Tryz.underlying24 Tryz.cellsSch rfl rfl Tryz.cellsInt Tryz.cellsSl h with ⟨h1, h2⟩ | ⟨a, len, cap, mm, n, V0, V1, D0, D1, P0, P1, h1, hb, hl, hcm, hmm, h2, hx⟩
    · cases h1
      exact ⟨none, 0, [], rfl, fun k => .mk _ _ _ _ LiesP.nil (by simp) (by simp) (by simp) (by simp)⟩
    · cases h1
      rw [if_pos rfl] at hmm
      subst hmm
      have hd : d = .slice ((List.range len).map fun i => .agg [D0 i, D1 i]) ((List.range (mm - len)).map fun j => .agg [D0 (len + j), D1 (len + j)]) := (Prod.mk.inj h2).1
      have hel : ∀ i, i < len → (DataW.agg [D0 i, D1 i]) ∈ (List.range len).map fun i => (DataW.agg [D0 i, D1 i] : DataW H) := fun i hi => List.mem_map.2 ⟨i, List.mem_range.2 hi, rfl⟩
      have hsz : len * 32 ≤ 140737488351232 := by
        have := hw ((len + (mm - len)) * 32) (by rw [hd, DataW.weights, Tryz.underlying22]; simp [Tryz.bytesSch])
        unfold reachBytes at this
        omega
      have each : ∀ i, i < len → ∃ s : Sc, V0 i = .int .i64 s.k ∧ V1 i = s.v1 ∧ s.In W.heap.size W := by
        intro i hi
        obtain ⟨-, -, t0, t1⟩ := hx i (by omega)
        obtain ⟨k, hk, -, -⟩ := DataW.trod_int Tryz.underlying3 t0
        have hlt : SizeOf.sizeOf (D1 i) ≤ m := by
          have h3 := List.sizeOf_lt_of_mem (hel i hi)
          have h4 : SizeOf.sizeOf (D1 i) < SizeOf.sizeOf (DataW.agg [D0 i, D1 i]) := by simp; omega
          have h5 : SizeOf.sizeOf ((List.range len).map fun i => (DataW.agg [D0 i, D1 i] : DataW H)) < SizeOf.sizeOf d := by rw [hd]; simp; omega
          omega
        obtain ⟨A, c, l, hv, hin⟩ := ih (D1 i) n (V1 i) (P1 i) hlt t1 (fun q hq => hw q (by
          rw [hd, DataW.weights, Tryz.underlying22]
          refine List.mem_cons_of_mem _ (List.mem_append.2 (.inl (weightsAll_mem (hel i hi) ?_)))
          rw [DataW.weights, Tryz.underlying24]
          simp [DataW.weightsEach, hq]))
        exact ⟨.mk k A c l, by simpa [Sc.k] using hk, hv, hin k⟩
      obtain ⟨f, hf⟩ := choose_lt each
      refine ⟨some a, mm, (List.range len).map f, by simp, fun k => ?_⟩
      refine .mk _ _ _ _ ?_ (by simpa using hl) (by unfold maxLen at hcm; omega) (by simpa using hsz) ?_
      · by_cases h0 : len = 0
        · subst h0; exact .inl rfl
        · obtain ⟨b, off, spot⟩ := a
          have hc0 := (hx 0 (by omega)).1
          have hspot : spot = none := by simpa [Addr.add] using World.cell?_spot hc0
          subst hspot
          have hblt : b < W.heap.size := World.block_lt_of_cell? W _ (by simpa [Addr.add] using hc0)
          refine .inr ⟨b, off, rfl, hblt, fun i x hx' => ?_⟩
          rw [List.getElem?_map] at hx'
          have hi : i < len := by
            rcases Nat.lt_or_ge i len with h | h
            · exact h
            · rw [List.getElem?_eq_none (by simpa using h)] at hx'; cases hx'
          rw [List.getElem?_range hi] at hx'
          have hxe : f i = x := by simpa using hx'
          obtain ⟨g0, g1, -, -⟩ := hx i (by omega)
          rw [Addr.add_lit] at g0 g1
          obtain ⟨e0, e1, -⟩ := hf i hi
          rw [← hxe, ← e0, ← e1]
          exact ⟨g0, by rw [Nat.add_assoc]; exact g1⟩
      · intro x hx'
        obtain ⟨i, hi, rfl⟩ := List.mem_map.1 hx'
        exact (hf i (List.mem_range.1 hi)).2.2

set_option maxRecDepth 100000 in
theorem open_sch {base : Nat} {v : Value} {d : DataW H} {ps : List MemPlace} (hok : Value.okWide Tryz.prog W .any base 24 v) (h : DataW.Trod enc Tryz.prog W 0 (fun _ => true) true 24 v d ps)
    (hw : ∀ n ∈ d.weights Tryz.prog 24, n ≤ reachBytes) : ∃ s : Sc, v = s.val ∧ s.In W.heap.size W := by
  obtain ⟨cs, rfl, hcs⟩ := okWide_struct Tryz.underlying24 hok
  rw [Tryz.cellsSch] at hcs
  obtain ⟨fuel, hf⟩ := h
  obtain ⟨xs, n, -, hx, -, hxl, hfs⟩ := DataW.trod_struct Tryz.underlying24 hf
  obtain ⟨cl⟩ := cs
  match cl, hcs, xs, hxl with
  | [v0, v1], _, [y0, y1], _ =>
    have g0 := hfs 0 _ rfl
    have g1 := hfs 1 _ rfl
    simp [Tryz.cellsInt, Tryz.cellsSl, Value.cells] at g0 g1
    obtain ⟨k, hk, -, -⟩ := DataW.trod_int Tryz.underlying3 g0
    have hd : d = .agg [y0.1, y1.1] := by simpa using (Prod.mk.inj hx).1
    obtain ⟨A, c, l, hv, hin⟩ := open_schL (SizeOf.sizeOf y1.1) y1.1 n v1 y1.2 (Nat.le_refl _) g1 (fun q hq => hw q (by
      rw [hd, DataW.weights, Tryz.underlying24]
      simp [DataW.weightsEach, hq]))
    have hk' : v0 = .int .i64 k := by simpa using hk
    exact ⟨.mk k A c l, by rw [hk', hv]; rfl, hin k⟩
end
end Go.Proofs.YtleejffjnknohaaGreat.S2

namespace Go.Proofs.YtleejffjnknohaaGreat.V4
open Go.ChangeShapes Go.WideShapes Go.ChangeAt Go.RowKit Go.Deep
open C3 (Tk Nok)

theorem flatMap_at {α β : Type} {f : α → List β} {k : Nat} (hk : ∀ x, (f x).length = k) (h0 : 0 < k) : ∀ {l : List α} {p : Nat} {u : β}, (l.flatMap f)[p]? = some u → ∃ x, l[p / k]? = some x ∧ (f x)[p % k]? = some u
  | [], p, u, h => by simp at h
  | x :: l, p, u, h => by
    rw [List.flatMap_cons] at h
    by_cases hp : p < k
    · rw [List.getElem?_append_left (by rw [hk]; exact hp)] at h
      refine ⟨x, ?_, by rw [Nat.mod_eq_of_lt hp]; exact h⟩
      rw [Nat.div_eq_of_lt hp]
      rfl
    · rw [List.getElem?_append_right (by rw [hk]; omega), hk] at h
      obtain ⟨y, h1, h2⟩ := flatMap_at hk h0 h
      have e1 : p / k = (p - k) / k + 1 := by rw [Nat.div_eq_sub_div h0 (by omega)]
      have e2 : p % k = (p - k) % k := by rw [Nat.mod_eq_sub_mod (by omega)]
      exact ⟨y, by rw [e1]; simpa using h1, by rw [e2]; exact h2⟩

theorem wAll_mem {H : Type} {P : Program} {e : TypeId} {d : DataW H} {n : Nat} : ∀ {ds : List (DataW H)}, d ∈ ds → n ∈ d.weights P e → n ∈ DataW.weightsAll P e ds
  | x :: ds, h, hn => by
    rw [DataW.weightsAll, List.mem_append]
    rcases List.mem_cons.1 h with rfl | h
    · exact .inl hn
    · exact .inr (wAll_mem h hn)

section
variable {H : Type} {enc : TypeId × Value → H} {W : World}

set_option maxRecDepth 100000 in
/-- A slice that came in: what lies in it, one by one. -/
theorem open_row {α : Type} [Inhabited α] {t e : TypeId} (k bytes : Nat) (f : α → List Value) (hk : ∀ x, (f x).length = k) (h0 : 0 < k) (ht : Tryz.prog.underlying t = some (.slice e)) (hc : Tryz.prog.cellsOf e = k) (hby : Tryz.prog.bytesOf e = bytes) (Q : α → Prop)
    {d : DataW H} {fuel : Nat} {v : Value} {ps : List MemPlace} (h : DataW.trod enc Tryz.prog W 0 (fun _ => true) true fuel t [v] = some (d, ps)) (hw : ∀ n ∈ d.weights Tryz.prog t, n ≤ reachBytes)
    (each : ∀ (dd : DataW H) (fuel' : Nat) (cs' : List Value) (ps' : List MemPlace), SizeOf.sizeOf dd < SizeOf.sizeOf d → cs'.length = k → DataW.trod enc Tryz.prog W 0 (fun _ => true) true fuel' e cs' = some (dd, ps') → (∀ n ∈ dd.weights Tryz.prog e, n ≤ reachBytes) → ∃ x : α, cs' = f x ∧ Q x) :
    ∃ (A : Option Addr) (c : Nat) (l : List α), v = .slice A l.length c ∧ LiesC (fun b => b < W.heap.size) W A (l.flatMap f) ∧ (l.length ≤ c ∧ c ≤ maxLen ∧ l.length * bytes ≤ 140737488351232) ∧ ∀ x ∈ l, Q x := by
  rcases open_slice ht h with ⟨h1, _⟩ | ⟨a, len, cap, mm, n, D, Pl, h1, hb, hl, hcm, hmm, h2, hx⟩
  · cases h1
    exact ⟨none, 0, [], rfl, .inl rfl, ⟨by simp, by simp [maxLen], by simp⟩, by simp⟩
  · cases h1
    rw [if_pos rfl] at hmm
    subst hmm
    have hd : d = .slice ((List.range len).map D) ((List.range (mm - len)).map fun j => D (len + j)) := (Prod.mk.inj h2).1
    have hel : ∀ i, i < len → D i ∈ (List.range len).map D := fun i hi => List.mem_map.2 ⟨i, List.mem_range.2 hi, rfl⟩
    have hsz : len * bytes ≤ 140737488351232 := by
      have := hw ((len + (mm - len)) * bytes) (by rw [hd, DataW.weights, ht]; simp [hby])
      unfold reachBytes at this
      have h3 : len * bytes ≤ (len + (mm - len)) * bytes := Nat.mul_le_mul_right _ (by omega)
      omega
    have all : ∀ i, i < len → ∃ x : α, W.cells? 0 (a.add (i * k)) k = some (f x) ∧ Q x := by
      intro i hi
      obtain ⟨cs', hcc, htr⟩ := hx i (by omega)
      rw [hc] at hcc
      obtain ⟨x, rfl, hq⟩ := each (D i) n cs' (Pl i) (by
        have h3 := List.sizeOf_lt_of_mem (hel i hi)
        rw [hd]
        simp
        omega) (World.cells?_some hcc).2.1 htr (fun q hq => hw q (by
          rw [hd, DataW.weights, ht]
          exact List.mem_cons_of_mem _ (List.mem_append.2 (.inl (wAll_mem (hel i hi) hq)))))
      exact ⟨x, hcc, hq⟩
    obtain ⟨g, hg⟩ := choose_lt all
    refine ⟨some a, mm, (List.range len).map g, by simp, ?_, ⟨by simpa using hl, hcm, by simpa using hsz⟩, ?_⟩
    · by_cases hz : len = 0
      · subst hz; exact .inl rfl
      · have hone : ∀ i, i < len → ∀ j u, (f (g i))[j]? = some u → W.cell? ((a.add (i * k)).add j) = some u := by
          intro i hi j u hu
          have hjl : j < k := by rw [← hk (g i)]; exact (List.getElem?_eq_some_iff.1 hu).1
          rw [(World.cells?_some (hg i hi).1).2.2 j hjl, hu]
        obtain ⟨u0, hu0⟩ : ∃ u, (f (g 0))[0]? = some u := ⟨_, List.getElem?_eq_getElem (by rw [hk]; exact h0)⟩
        have hc0 := hone 0 (by omega) 0 u0 hu0
        obtain ⟨b, off, spot⟩ := a
        have hspot : spot = none := by simpa [Addr.add] using World.cell?_spot hc0
        subst hspot
        have hblt : b < W.heap.size := World.block_lt_of_cell? W _ (by simpa [Addr.add] using hc0)
        refine .inr ⟨b, off, rfl, hblt, fun p u hu => ?_⟩
        obtain ⟨x, hx1, hx2⟩ := flatMap_at hk h0 hu
        rw [List.getElem?_map] at hx1
        have hi : p / k < len := by
          rcases Nat.lt_or_ge (p / k) len with h | h
          · exact h
          · rw [List.getElem?_eq_none (by simpa using h)] at hx1; cases hx1
        rw [List.getElem?_range hi] at hx1
        have hxe : g (p / k) = x := by simpa using hx1
        have := hone (p / k) hi (p % k) u (by rw [hxe]; exact hx2)
        rw [Addr.add_lit, Addr.add_lit] at this
        rw [← this]
        congr 2
        have := Nat.div_add_mod p k
        rw [Nat.mul_comm] at this
        omega
    · intro x hx'
      obtain ⟨i, hi, rfl⟩ := List.mem_map.1 hx'
      exact (hg i (List.mem_range.1 hi)).2
end
end Go.Proofs.YtleejffjnknohaaGreat.V4

namespace Go.Proofs.YtleejffjnknohaaGreat.V4
open Go.ChangeShapes Go.WideShapes Go.ChangeAt Go.RowKit Go.Deep
open C3 (Tk Nok)

theorem Tryz.own : ownKnob Tryz.prog.godebug = none := by kernel_rfl
theorem Tryz.cInt : Tryz.prog.cellsOf 3 = 1 := by kernel_rfl
theorem Tryz.cU64 : Tryz.prog.cellsOf 28 = 1 := by kernel_rfl
theorem Tryz.cStr : Tryz.prog.cellsOf 9 = 1 := by kernel_rfl
theorem Tryz.cTick : Tryz.prog.cellsOf 57 = 2 := by kernel_rfl
theorem Tryz.cTicks : Tryz.prog.cellsOf 55 = 1 := by kernel_rfl
theorem Tryz.cStrs : Tryz.prog.cellsOf 29 = 1 := by kernel_rfl
theorem Tryz.cClocks : Tryz.prog.cellsOf 30 = 1 := by kernel_rfl
theorem Tryz.cVals : Tryz.prog.cellsOf 25 = 1 := by kernel_rfl
theorem Tryz.cVal : Tryz.prog.cellsOf 32 = 5 := by kernel_rfl
theorem Tryz.bStr : Tryz.prog.bytesOf 9 = 16 := by kernel_rfl
theorem Tryz.bTick : Tryz.prog.bytesOf 57 = 16 := by kernel_rfl
theorem Tryz.bTicks : Tryz.prog.bytesOf 55 = 24 := by kernel_rfl
theorem Tryz.bVal : Tryz.prog.bytesOf 32 = 88 := by kernel_rfl

instance : Inhabited Tk := ⟨⟨0, 0⟩⟩
instance : Inhabited Ck := ⟨⟨none, 0, []⟩⟩
instance : Inhabited Vl := ⟨.mk 0 0 none 0 [] none 0 [] none 0 []⟩

theorem u64_ok {n : Int} (h : (Lit.int .u64 n).wf = true) : 0 ≤ n ∧ n ≤ 18446744073709551615 := by
  simp [Lit.wf] at h
  have e1 : IntKind.u64.min = 0 := by decide
  have e2 : IntKind.u64.max = 18446744073709551615 := by decide
  omega
theorem flatMap_one {α β : Type} (f : α → β) : ∀ l : List α, l.flatMap (fun x => [f x]) = l.map f
  | [] => rfl
  | x :: l => by rw [List.flatMap_cons, flatMap_one f l]; rfl
theorem size_S (x : Str) : (S x).size = x.length := by simp [S, ByteArray.size]

section
variable {H : Type} {enc : TypeId × Value → H} {W : World}

set_option maxRecDepth 100000 in
theorem open_texts {d : DataW H} {fuel : Nat} {v : Value} {ps : List MemPlace} (h : DataW.trod enc Tryz.prog W 0 (fun _ => true) true fuel 29 [v] = some (d, ps)) (hw : ∀ n ∈ d.weights Tryz.prog 29, n ≤ reachBytes) :
    ∃ (A : Option Addr) (c : Nat) (l : List Str), v = .slice A l.length c ∧ LiesC (fun b => b < W.heap.size) W A (cellsS l) ∧ (l.length ≤ c ∧ c ≤ maxLen ∧ l.length * 16 ≤ 140737488351232) ∧ ∀ s ∈ l, s.length ≤ maxLen := by
  obtain ⟨A, c, l, h1, h2, h3, h4⟩ := open_row 1 16 (fun s : Str => [Value.string (S s)]) (fun _ => rfl) (by omega) Tryz.underlying29 Tryz.cStr Tryz.bStr (fun s => s.length ≤ maxLen) h hw (by
    intro dd fuel' cs' ps' _ _ htr _
    obtain ⟨s, hs, -, hsz⟩ := DataW.trod_string Tryz.underlying9 htr
    obtain ⟨x, rfl⟩ := S_of s
    exact ⟨x, hs, by rw [← size_S]; exact hsz⟩)
  refine ⟨A, c, l, h1, ?_, h3, h4⟩
  have e : l.flatMap (fun s : Str => [Value.string (S s)]) = cellsS l := flatMap_one _ l
  rwa [e] at h2

set_option maxRecDepth 100000 in
theorem open_clock {d : DataW H} {fuel : Nat} {v : Value} {ps : List MemPlace} (h : DataW.trod enc Tryz.prog W 0 (fun _ => true) true fuel 55 [v] = some (d, ps)) (hw : ∀ n ∈ d.weights Tryz.prog 55, n ≤ reachBytes) :
    ∃ x : Ck, v = x.v ∧ x.Inp (fun b => b < W.heap.size) W := by
  obtain ⟨A, c, l, h1, h2, h3, h4⟩ := open_row 2 16 (fun x : Tk => [Value.int .i64 x.k, Value.int .u64 x.n]) (fun _ => rfl) (by omega) Tryz.underlying55 Tryz.cTick Tryz.bTick (fun x => 0 ≤ x.n ∧ x.n ≤ 18446744073709551615) h hw (by
    intro dd fuel' cs' ps' _ hl htr _
    obtain ⟨xs, n, -, -, -, hxl, hfs⟩ := DataW.trod_struct Tryz.underlying57 htr
    match cs', hl, xs, hxl with
    | [v0, v1], _, [y0, y1], _ =>
      have g0 := hfs 0 _ rfl
      have g1 := hfs 1 _ rfl
      simp [Tryz.cInt, Tryz.cU64] at g0 g1
      obtain ⟨k, hk, -, -⟩ := DataW.trod_int Tryz.underlying3 g0
      obtain ⟨m, hm, -, hwf⟩ := DataW.trod_int Tryz.underlying28 g1
      have hk' : v0 = .int .i64 k := by simpa using hk
      have hm' : v1 = .int .u64 m := by simpa using hm
      exact ⟨⟨k, m⟩, by rw [hk', hm'], u64_ok hwf⟩)
  exact ⟨⟨A, c, l⟩, h1, h2, h3.1, h3.2.1, h4, h3.2.2⟩

set_option maxRecDepth 100000 in
theorem open_clocks {d : DataW H} {fuel : Nat} {v : Value} {ps : List MemPlace} (h : DataW.trod enc Tryz.prog W 0 (fun _ => true) true fuel 30 [v] = some (d, ps)) (hw : ∀ n ∈ d.weights Tryz.prog 30, n ≤ reachBytes) :
    ∃ (A : Option Addr) (c : Nat) (l : List Ck), v = .slice A l.length c ∧ LiesC (fun b => b < W.heap.size) W A (cellsC l) ∧ (l.length ≤ c ∧ c ≤ maxLen ∧ l.length * 24 ≤ 140737488351232) ∧ ∀ x ∈ l, x.Inp (fun b => b < W.heap.size) W := by
  obtain ⟨A, c, l, h1, h2, h3, h4⟩ := open_row 1 24 (fun x : Ck => [x.v]) (fun _ => rfl) (by omega) Tryz.underlying30 Tryz.cTicks Tryz.bTicks (fun x => x.Inp (fun b => b < W.heap.size) W) h hw (by
    intro dd fuel' cs' ps' _ hl htr hww
    match cs', hl with
    | [v0], _ =>
      obtain ⟨x, hx, hi⟩ := open_clock htr hww
      exact ⟨x, by rw [hx], hi⟩)
  refine ⟨A, c, l, h1, ?_, h3, h4⟩
  have e : l.flatMap (fun x : Ck => [x.v]) = cellsC l := flatMap_one _ l
  rwa [e] at h2

set_option maxRecDepth 100000 in
theorem open_parts (m : Nat) (ih : ∀ (d : DataW H) (fuel : Nat) (v : Value) (ps : List MemPlace), SizeOf.sizeOf d < m → DataW.trod enc Tryz.prog W 0 (fun _ => true) true fuel 25 [v] = some (d, ps) → (∀ n ∈ d.weights Tryz.prog 25, n ≤ reachBytes) →
      ∃ (A : Option Addr) (c : Nat) (l : List Vl), v = .slice A l.length c ∧ LiesC (fun b => b < W.heap.size) W A (cellsV l) ∧ (l.length ≤ c ∧ c ≤ maxLen ∧ l.length * 88 ≤ 140737488351232) ∧ ∀ x ∈ l, x.In W)
    {d : DataW H} {fuel : Nat} {cs : List Value} {ps : List MemPlace} (hd : SizeOf.sizeOf d ≤ m) (hl : cs.length = 5) (h : DataW.trod enc Tryz.prog W 0 (fun _ => true) true fuel 32 cs = some (d, ps)) (hw : ∀ n ∈ d.weights Tryz.prog 32, n ≤ reachBytes) :
    ∃ x : Vl, cs = [.int .u64 x.n, .int .u64 x.m, x.s1, x.c1, x.v1] ∧ x.In W := by
  obtain ⟨xs, n, -, hx, -, hxl, hfs⟩ := DataW.trod_struct Tryz.underlying32 h
  match cs, hl, xs, hxl with
  | [v0, v1, v2, v3, v4], _, [y0, y1, y2, y3, y4], _ =>
    have g0 := hfs 0 _ rfl
    have g1 := hfs 1 _ rfl
    have g2 := hfs 2 _ rfl
    have g3 := hfs 3 _ rfl
    have g4 := hfs 4 _ rfl
    simp [Tryz.cU64, Tryz.cStrs, Tryz.cClocks, Tryz.cVals] at g0 g1 g2 g3 g4
    have hd' : d = .agg [y0.1, y1.1, y2.1, y3.1, y4.1] := by simpa using (Prod.mk.inj hx).1
    have hwi : ∀ q, (q ∈ y2.1.weights Tryz.prog 29 ∨ q ∈ y3.1.weights Tryz.prog 30 ∨ q ∈ y4.1.weights Tryz.prog 25) → q ≤ reachBytes := fun q hq => hw q (by
      rw [hd', DataW.weights, Tryz.underlying32]
      rcases hq with h | h | h <;> simp [DataW.weightsEach, h])
    obtain ⟨a, ha, -, hwa⟩ := DataW.trod_int Tryz.underlying28 g0
    obtain ⟨b, hb, -, hwb⟩ := DataW.trod_int Tryz.underlying28 g1
    obtain ⟨sA, sc, ss, hs, s1, s2, s3⟩ := open_texts g2 (fun q hq => hwi q (.inl hq))
    obtain ⟨cA, cc, cs, hc, c1, c2, c3⟩ := open_clocks g3 (fun q hq => hwi q (.inr (.inl hq)))
    obtain ⟨vA, vc, vs, hv, w1, w2, w3⟩ := ih y4.1 n v4 y4.2 (by rw [hd'] at hd; simp at hd; omega) g4 (fun q hq => hwi q (.inr (.inr hq)))
    have ha' : v0 = .int .u64 a := by simpa using ha
    have hb' : v1 = .int .u64 b := by simpa using hb
    exact ⟨.mk a b sA sc ss cA cc cs vA vc vs, by rw [ha', hb', hs, hc, hv]; rfl, .mk _ _ _ _ _ _ _ _ _ _ _ (u64_ok hwa) (u64_ok hwb) s1 s2 s3 c1 c2 c3 w1 w2 w3⟩

set_option maxRecDepth 100000 in
theorem open_values (m : Nat) : ∀ (d : DataW H) (fuel : Nat) (v : Value) (ps : List MemPlace), SizeOf.sizeOf d < m → DataW.trod enc Tryz.prog W 0 (fun _ => true) true fuel 25 [v] = some (d, ps) → (∀ n ∈ d.weights Tryz.prog 25, n ≤ reachBytes) →
    ∃ (A : Option Addr) (c : Nat) (l : List Vl), v = .slice A l.length c ∧ LiesC (fun b => b < W.heap.size) W A (cellsV l) ∧ (l.length ≤ c ∧ c ≤ maxLen ∧ l.length * 88 ≤ 140737488351232) ∧ ∀ x ∈ l, x.In W := by
  induction m with
  | zero => intro d _ _ _ hm; omega
  | succ m ih =>
    intro d fuel v ps hm h hw
    obtain ⟨A, c, l, h1, h2, h3, h4⟩ := open_row 5 88 (fun x : Vl => [Value.int .u64 x.n, Value.int .u64 x.m, x.s1, x.c1, x.v1]) (fun _ => rfl) (by omega) Tryz.underlying25 Tryz.cVal Tryz.bVal (fun x => x.In W) h hw (by
      intro dd fuel' cs' ps' hlt hl htr hww
      exact open_parts m ih (by omega) hl htr hww)
    exact ⟨A, c, l, h1, h2, h3, h4⟩

end
end Go.Proofs.YtleejffjnknohaaGreat.V4

namespace Go.Proofs.YtleejffjnknohaaGreat
open Go.ChangeShapes Go.WideShapes Go.ChangeAt Go.RowKit
open S2 (Sc open_sch)
open V4 (Vl open_values)

theorem u8_in {n : Int} (h : (Lit.int .u8 n).wf = true) : 0 ≤ n ∧ n ≤ 255 := by
  simp [Lit.wf] at h
  have e1 : IntKind.u8.min = 0 := by decide
  have e2 : IntKind.u8.max = 255 := by decide
  omega

set_option maxRecDepth 100000 in
theorem joinRows_lifted (os : Os) (started : os.Started) (H : Type) (enc : TypeId × Value → H) :
    ReturnsInHanded {} Tryz.checked os 3 .any (Rows.joinRowsSpec.pre6 enc Tryz.prog Tryz.f3 Rows.joinRowsRow.domain false) (Rows.joinRowsSpec.post enc Tryz.prog Tryz.f3 false true false false) := by
  refine returnsInHanded_of_change_sized (C := Tryz.checked) (by kernel_rfl) started (by kernel_rfl) Tryz.func3
    (ChangeSpec.witness6 (enc := enc) (C := Tryz.checked) false ⟨#[], #[.agg #[.int .i64 0, .slice none 0 0], .slice none 0 0, .int .u8 0, .int .u32 0], []⟩ 8 (by kernel_rfl) (by kernel_rfl) (by kernel_rfl) (by kernel_rfl)) ?_
  intro W base args ds gs before hval0 hW _ hsz0 _
  have hval : ∀ (j : Nat) t v, Tryz.f3.params[j]? = some t → args[j]? = some v → Value.okWide Tryz.prog W .any base t v := hval0
  have hsz : (DataW.weightsEach Tryz.prog (Tryz.f3.params.toList ++ Rows.joinRowsSpec.plain.varTypes Tryz.prog) (ds ++ gs)).all (· ≤ reachBytes) = true := hsz0
  have hW' := hW
  obtain ⟨p, q, hA0, hV, rfl, _, _⟩ := hW
  have hA : DataW.TrodAll enc Tryz.prog W 0 (fun _ => true) true Tryz.f3.params.toList args.toList ds p := hA0
  rw [Tryz.params3] at hA hval hsz
  obtain ⟨v0, vs0, d0, ds0, p0, q0, hargs, rfl, rfl, h0, r0⟩ := trodAll_cons hA
  obtain ⟨v1, vs1, d1, ds1, p1, q1, rfl, rfl, rfl, h1, r1⟩ := trodAll_cons r0
  obtain ⟨v2, vs2, d2, ds2, p2, q2, rfl, rfl, rfl, h2, r2⟩ := trodAll_cons r1
  obtain ⟨v3, vs3, d3, ds3, p3, q3, rfl, rfl, rfl, h3, r3⟩ := trodAll_cons r2
  obtain ⟨rfl, rfl, rfl⟩ := trodAll_nil r3
  obtain rfl : args = #[v0, v1, v2, v3] := by cases args; simp_all
  obtain ⟨rfl, rfl⟩ := trodVars_none hV
  have lt0 : ∀ x ∈ p0, x.block < W.heap.size := by obtain ⟨m, hm⟩ := h0; exact DataW.trod_lt m _ _ _ hm
  have lt1 : ∀ x ∈ p1, x.block < W.heap.size := by obtain ⟨m, hm⟩ := h1; exact DataW.trod_lt m _ _ _ hm
  obtain ⟨s, rfl, hs⟩ := open_sch (hval 0 24 v0 rfl rfl) h0 (fun n hn => by simpa using List.all_eq_true.1 hsz n (DataW.weights_mem_each (j := 0) (t := 24) rfl rfl n hn))
  have hw1 : ∀ n ∈ d1.weights Tryz.prog 25, n ≤ reachBytes := fun n hn => by simpa using List.all_eq_true.1 hsz n (DataW.weights_mem_each (j := 1) (t := 25) rfl rfl n hn)
  obtain ⟨A, c, l, rfl, hl, hb, hv⟩ : ∃ (A : Option Addr) (c : Nat) (l : List Vl), v1 = .slice A l.length c ∧ V4.LiesC (fun b => b < W.heap.size) W A (V4.cellsV l) ∧ (l.length ≤ c ∧ c ≤ maxLen ∧ l.length * 88 ≤ 140737488351232) ∧ ∀ x ∈ l, x.In W := by
    obtain ⟨A, n, c, rfl⟩ := okWide_slice Tryz.underlying25 (hval 1 25 v1 rfl rfl)
    obtain ⟨fuel, hf⟩ := h1
    exact open_values (enc := enc) (SizeOf.sizeOf d1 + 1) d1 fuel _ p1 (by omega) (by simpa [Value.cells] using hf) hw1
  obtain ⟨a2, rfl, rfl, rfl, w2⟩ := open_int Tryz.underlying5 (hval 2 5 v2 rfl rfl) h2
  obtain ⟨a3, rfl, rfl, rfl, w3⟩ := open_int Tryz.underlying26 (hval 3 26 v3 rfl rfl) h3
  clear hA0 hval0 hsz0
  simp only [List.append_nil] at hW'
  refine (J5.joinRows_all s A c l a2 a3 (u8_in w2) W hs hl hv (by have := hb.1; have := hb.2.1; unfold maxLen at this; omega)).mono fun e W' ⟨he, bel⟩ => ?_
  subst he
  exact ⟨_, rfl, _, _, _, [], _, [], hW', trodAll_mk1 (shut_bool Tryz.underlying4 _), (trodAll_cons_mk (Below.trod (by kernel_rfl) (by kernel_rfl) (of_decide_eq_true (by kernel_rfl)) h0 bel lt0) (trodAll_cons_mk (Below.trod (by kernel_rfl) (by kernel_rfl) (of_decide_eq_true (by kernel_rfl)) h1 bel lt1) (trodAll_cons_mk (shut_int Tryz.underlying5 w2) (trodAll_cons_mk (shut_int Tryz.underlying26 w3) trodAll_mk0)))), rfl, bel.frame _, fun h => by cases h⟩

theorem joinRows_holds : Rows.JoinRowsSaid :=
  OpenClaim.holds_of_wide 3 Tryz.f3 rfl rfl rfl rfl rfl rfl rfl ⟨rfl, rfl, rfl, rfl, rfl⟩ rfl rfl rfl rfl rfl (by kernel_rfl) Tryz.func3 (by kernel_rfl)
    (of_decide_eq_true (by kernel_rfl)) (by unfold Func.isWrapper; first | (rw [if_pos (by decide +kernel)]; kernel_rfl) | (rw [if_neg (by decide +kernel)]; exact ⟨rfl, rfl⟩))
    (fun os started H enc _ => joinRows_lifted os started H enc)
end Go.Proofs.YtleejffjnknohaaGreat
