/- What value.Is and value.None do, in the words of the walk. No condition but that what is handed in lies in memory. What the walk says is what the document says: nothing; plain mathematics. No condition but that the schema is one. What the walk says is what the document says: a value by a schema; plain mathematics. No condition but that the schema is one. Two lines of marks gone through together: what stands in it; what comes of it. Plain mathematics. No condition. What is in a value of each kind. Plain mathematics. No condition. -/
import Derived.Test.YtdbohojncbeajaaGreatMo19
import Derived.Test.YtdbohojncbeajaaGreatMo05
namespace Go.Proofs.YtdbohojncbeajaaGreat.V4
open Go.RowKit Go.Shelf
open S2 (Sc isT allocB)
open C3 (isC belAl)

theorem right_safe {x : Sc × Vl} (h : OkS x.1) (hx : rightT x = true) : SafeT x := by
  by_cases hk : x.1.k = 4 ∨ x.1.k = 5 ∨ x.1.k = 8
  · exact .inr (okS_ins h hk)
  · refine .inl ?_
    unfold rightT flagsK at hx
    rw [Bool.and_eq_true] at hx
    have h0 := hx.1
    simp only [show ¬ x.1.k = 4 by omega, show ¬ x.1.k = 5 by omega, show ¬ x.1.k = 8 by omega, if_false] at h0
    have : ∀ (p q r s : Bool), hasN x.2.n x.2.m x.2.ss.length x.2.cs.length x.2.vs.length p q r s false = true → x.2.vs = [] := fun p q r s h => by
      unfold hasN at h
      simp only [Bool.and_eq_true, Bool.false_or, decide_eq_true_eq] at h
      exact List.eq_nil_of_length_eq_zero h.2.2.2.2
    split at h0
    · exact this _ _ _ _ h0
    split at h0
    · exact this _ _ _ _ h0
    split at h0
    · exact this _ _ _ _ h0
    split at h0
    · exact this _ _ _ _ h0
    split at h0
    · exact this _ _ _ _ h0
    · exact this _ _ _ _ h0

/-- All of it is right. -/
def rightAll (x : Sc × Vl) : Bool := (treeT x.2 x.1).pre.all rightT

theorem everyRight_any (x : Sc × Vl) (w : World) (hin : InT w x) (hok : OkS x.1) (b1 b2 : Nat) (w' : World) (hb : Below w.heap.size w w')
    (hs : ∀ D w2, Below w'.heap.size w' w2 → w.heap.size ≤ D → D < w2.heap.size → SeqO Tryz.prog 54 #[.pointer (some ⟨b1, 0, none⟩), .pointer (some ⟨b2, 0, none⟩)] encT D SafeT (treeT x.2 x.1).pre w2) :
    Calls Tryz.prog 39 #[.func (.func 54) #[] #[.pointer (some ⟨b1, 0, none⟩), .pointer (some ⟨b2, 0, none⟩)], .func (.func 42) #[] #[]] w' (RetV w' (.bool (rightAll x))) :=
  every_right rightT (treeT x.2 x.1).pre (fun y hy W hW => right_any y W hW (okT x.2 x.1 hok y hy)) SafeT (fun y hy h => right_safe (okT x.2 x.1 hok y hy) h) _ _ (enters_of Tryz.func54 (by kernel_rfl) rfl) w'
    (fun D w2 hb2 hD hD2 => hs D w2 hb2 (Nat.le_trans hb.size hD) hD2) (fun y hy => inT_pre x.2 x.1 (hin.later hb) y hy)

theorem nestedT_any (x : Sc × Vl) (w : World) (hin : InT w x) : Calls Tryz.prog 40 #[valT x, .func (.func 41) #[] #[]] w (NestsT (treeT x.2 x.1) w) := by
  have := nested_T (treeT x.2 x.1) w (fun D hD => goodT x.2 x.1 (hin.2.bar hD) (sc_bar hin.1 hD))
  rw [treeT_lab] at this
  exact this

set_option maxRecDepth 100000 in
set_option maxHeartbeats 1000000 in
theorem Is_walk (s : Sc) (v : Vl) (w : World) (hs : s.In w.heap.size w) (hv : v.In w) : Calls Tryz.prog 30 #[s.val, v.val] w (RetV w (.bool (isT 16 s.er && rightAll (s, v)))) := by
  obtain ⟨V, hV⟩ : ∃ V, ((w.alloc (.cells #[.int .i64 s.k, s.v1] 37)).alloc (.cells #[.int .u64 v.n, .int .u64 v.m, v.s1, v.c1, v.v1] 29)) = V := ⟨_, rfl⟩
  have hB0 : Below w.heap.size w V := by rw [← hV]; exact belAl (belAl (Below.refl _ _))
  have hsz : V.heap.size = w.heap.size + 2 := by rw [← hV]; simp
  have hcS : ∀ i u, (#[.int .i64 s.k, s.v1] : Array Value)[i]? = some u → V.cell? ⟨w.heap.size, i, none⟩ = some u := fun i u h => by
    rw [← hV]
    exact ((belAl1 (Below.refl (w.heap.size + 1) (w.alloc (.cells #[.int .i64 s.k, s.v1] 37))) (by simp)).cell (p := ⟨w.heap.size, i, none⟩) (by simp)).trans (alloc_cells i u h)
  have hcV : ∀ i u, (#[.int .u64 v.n, .int .u64 v.m, v.s1, v.c1, v.v1] : Array Value)[i]? = some u → V.cell? ⟨w.heap.size + 1, i, none⟩ = some u := fun i u h => by
    rw [← hV]
    exact alloc2_cell i u h
  have hin : InT w (s, v) := ⟨hs, hv⟩
  have HI := Lib.hid (S2.Is_any s V (hin.later hB0).1)
  obtain ⟨q, hq⟩ : ∃ q, isT 16 s.er = q := ⟨_, rfl⟩
  have HQ := Lib.hid hq
  have HN : Hid (∀ Z, Below V.heap.size V Z → Calls Tryz.prog 40 #[valT (s, v), .func (.func 41) #[] #[]] Z (NestsT (treeT v s) Z)) := fun Z hZ => nestedT_any (s, v) Z ((hin.later hB0).later hZ)
  have HE : Hid (q = true → ∀ (Z : World), Below V.heap.size V Z → ∀ (b1 b2 : Nat) (w' : World), Below Z.heap.size Z w' → (∀ D w2, Below w'.heap.size w' w2 → Z.heap.size ≤ D → D < w2.heap.size → SeqO Tryz.prog 54 #[.pointer (some ⟨b1, 0, none⟩), .pointer (some ⟨b2, 0, none⟩)] encT D SafeT (treeT v s).pre w2) →
      Calls Tryz.prog 39 #[.func (.func 54) #[] #[.pointer (some ⟨b1, 0, none⟩), .pointer (some ⟨b2, 0, none⟩)], .func (.func 42) #[] #[]] w' (RetV w' (.bool (rightAll (s, v))))) := fun hq1 Z hZ b1 b2 w' hb hs =>
    everyRight_any (s, v) Z ((hin.later hB0).later hZ) (.inl ⟨16, hq.trans hq1⟩) b1 b2 w' hb hs
  rw [hq] at HI ⊢
  obtain ⟨R, hR⟩ : ∃ R, rightAll (s, v) = R := ⟨_, rfl⟩
  rw [hR] at HE ⊢
  clear hin hs hv hq hR
  have a0 := hcS 0 _ rfl
  have a1 := hcS 1 _ rfl
  have g0 := hcV 0 _ rfl
  have g1 := hcV 1 _ rfl
  have g2 := hcV 2 _ rfl
  have g3 := hcV 3 _ rfl
  have g4 := hcV 4 _ rfl
  clear hcS hcV
  obtain ⟨k, A, c, il⟩ := s
  obtain ⟨n, m, sA, sc, ss, cA, cc, cs, vA, vc, vs⟩ := v
  simp only [val_mk, S2.val_mk, valT, cellsT, Sc.k, Sc.v1, Vl.n, Vl.m, Vl.s1, Vl.c1, Vl.v1] at a0 a1 g0 g1 g2 g3 g4 HI HN hV ⊢
  go_enter Tryz.func30, Tryz.ntmps30
  go_wp2_with fail
  clear hV
  refine HI.out.mono ?_
  clear HI
  rintro e w3 ⟨rfl, hb⟩
  have hB3 := hB0.trans (hb.mono hB0.size)
  replace a0 := (hb.cell (p := ⟨w.heap.size, 0, none⟩) (by simp only; omega)).trans a0
  replace a1 := (hb.cell (p := ⟨w.heap.size, 1, none⟩) (by simp only; omega)).trans a1
  replace g0 := (hb.cell (p := ⟨w.heap.size + 1, 0, none⟩) (by simp only; omega)).trans g0
  replace g1 := (hb.cell (p := ⟨w.heap.size + 1, 1, none⟩) (by simp only; omega)).trans g1
  replace g2 := (hb.cell (p := ⟨w.heap.size + 1, 2, none⟩) (by simp only; omega)).trans g2
  replace g3 := (hb.cell (p := ⟨w.heap.size + 1, 3, none⟩) (by simp only; omega)).trans g3
  replace g4 := (hb.cell (p := ⟨w.heap.size + 1, 4, none⟩) (by simp only; omega)).trans g4
  have HN3 := Lib.hid (HN.out w3 hb)
  have HE3 := Lib.hid fun h => HE.out h w3 hb
  clear hb hB0 HN HE hsz
  cases q with
  | false =>
    go_wp2_with fail
    go_ret
    exact ⟨rfl, hB3⟩
  | true =>
    go_wp2_with fail
    refine HN3.out.mono ?_
    clear HN3
    rintro e w4 ⟨b1, b2, rfl, hb4, hseq⟩
    have HE4 := Lib.hid (HE3.out (by trivial) b1 b2 w4 hb4 hseq)
    clear HE3 hseq
    go_wp2_with fail
    refine HE4.out.mono ?_
    rintro e w5 ⟨rfl, hb5⟩
    go_wp2_with fail
    go_ret
    exact ⟨rfl, hB3.trans ((hb4.trans (hb5.mono hb4.size)).mono hB3.size)⟩
end Go.Proofs.YtdbohojncbeajaaGreat.V4

namespace Go.Proofs.YtdbohojncbeajaaGreat.V4
open S2 (Sc Tr isT)
open C3 (Tk isC)

theorem isT_succ : ∀ (n : Nat) (t : Tr), isT n t = true → isT (n + 1) t = true
  | 0, t, h => by simp [isT] at h
  | n + 1, t, h => by
    rw [isT, Bool.and_eq_true] at h ⊢
    refine ⟨h.1, ?_⟩
    rw [List.all_eq_true] at *
    exact fun x hx => isT_succ n x (h.2 x hx)
theorem isT_le {n m : Nat} {t : Tr} (h : isT n t = true) (hn : n ≤ m) : isT m t = true := by
  induction m with
  | zero => rw [show n = 0 by omega] at h; exact h
  | succ m ih =>
    by_cases h1 : n ≤ m
    · exact isT_succ m t (ih h1)
    · rw [show n = m + 1 by omega] at h; exact h

theorem all_mem_congr {α : Type} {p q : α → Bool} {l : List α} (h : ∀ x ∈ l, p x = q x) : l.all p = l.all q := by
  induction l with
  | nil => rfl
  | cons x l ih => rw [List.all_cons, List.all_cons, h x (by simp), ih fun y hy => h y (List.mem_cons_of_mem _ hy)]

/-- A walk over all of it: over it, and over all that is in it. -/
theorem all_tree (p : Sc × Vl → Bool) (v : Vl) (s : Sc) : (treeT v s).pre.all p = (p (s, v) && (kidsT (s, v)).all fun y => (treeT y.2 y.1).pre.all p) := by
  rw [treeT_mk, Nd.pre, List.all_cons]
  congr 1
  have h : ∀ (l : List (Nd (Sc × Vl))), (Nd.preL l).all p = l.all fun t => t.pre.all p := fun l => by
    induction l with
    | nil => rfl
    | cons t l ih => rw [Nd.preL, List.all_append, ih, List.all_cons]
  rw [h, ← kidsT_lab]
  show _ = ((treeTL v.vs s.ins 0).map Nd.lab).all _
  rw [List.all_map]
  refine all_mem_congr fun t ht => ?_
  obtain ⟨i, hi⟩ := List.getElem?_of_mem ht
  rw [treeTL_at] at hi
  obtain ⟨y, hy, rfl⟩ := Option.map_eq_some_iff.1 hi
  simp only [Function.comp, treeT_lab]

theorem kids_nil {s : Sc} {v : Vl} (h : v.vs = []) : kidsT (s, v) = [] := by
  apply List.eq_nil_of_length_eq_zero; rw [kidsT_len]; simp [h]
theorem kids_two {s : Sc} {v x y : Vl} {a b : Sc} (h : v.vs = [x, y]) (hs : s.ins = [a, b]) : kidsT (s, v) = [(a, x), (b, y)] := by
  unfold kidsT
  simp only [h, hs]
  rfl
theorem kids_one {s : Sc} {v : Vl} {a : Sc} (hs : s.ins = [a]) : kidsT (s, v) = v.vs.map fun y => (a, y) := by
  refine List.ext_getElem? fun i => ?_
  rw [kidsT_at, List.getElem?_map]
  simp only [scAt, hs, List.length_cons, List.length_nil]
  rw [show min i (0 + 1 - 1) = 0 by omega]
  rfl

theorem one_of_len {α : Type} {l : List α} (h : l.length = 1) : ∃ x, l = [x] := List.length_eq_one_iff.1 h

theorem hasN_none (n m : Int) (a b d : Nat) : hasN n m a b d false false false false false = decide (n = 0 ∧ m = 0 ∧ a = 0 ∧ b = 0 ∧ d = 0) := by
  unfold hasN
  simp only [Bool.false_or]
  by_cases h1 : n = 0 <;> by_cases h2 : m = 0 <;> by_cases h3 : a = 0 <;> by_cases h4 : b = 0 <;> by_cases h5 : d = 0 <;> simp [h1, h2, h3, h4, h5]

theorem mk_inj {n m n' m' : Int} {s s' : List Str} {c c' : List (List Tk)} {v v' : List Va} : Va.mk n m s c v = Va.mk n' m' s' c' v' ↔ n = n' ∧ m = m' ∧ s = s' ∧ c = c' ∧ v = v' := by
  constructor
  · intro h; cases h; exact ⟨rfl, rfl, rfl, rfl, rfl⟩
  · rintro ⟨rfl, rfl, rfl, rfl, rfl⟩; rfl

/-- Nothing, all the way in, is what has nothing. -/
theorem noneT_bot : ∀ (v : Vl) (s : Sc) (n : Nat), n ≤ 16 → isT n s.er = true → noneT (s, v) = decide (v.er = botT s.er) := by
  intro v
  induction v using Vl.ind with
  | h n0 m0 sA sc ss cA cc cs vA vc vs ih =>
    intro s n hn hs
    unfold noneT
    rw [all_tree]
    have h16 := isT_le hs hn
    by_cases hk : s.k = 5
    · obtain ⟨k, A, c, l⟩ := s
      have hl : l.length = 2 := by
        have := okS_len (s := Sc.mk k A c l) (.inl ⟨n, hs⟩) (by rw [hk]; decide)
        rw [hk] at this
        simp [S2.arI, Sc.ins] at this
        omega
      simp only [Sc.k] at hk
      subst hk
      obtain ⟨a, b, rfl⟩ := two_of_len hl
      rw [S2.er_mk] at hs h16 ⊢
      simp only [List.map_cons, List.map_nil] at hs h16 ⊢
      rw [botT_pair h16]
      have hh : hollowT (Sc.mk 5 A c [a, b], Vl.mk n0 m0 sA sc ss cA cc cs vA vc vs) = decide (n0 = 0 ∧ m0 = 0 ∧ ss.length = 0 ∧ cs.length = 0 ∧ vs.length = 2) := by
        show hollowK 5 n0 m0 ss.length cs.length vs.length = _
        unfold hollowK hasN
        rw [if_pos rfl]
        simp only [Bool.false_or, Bool.true_or]
        by_cases h1 : n0 = 0 <;> by_cases h2 : m0 = 0 <;> by_cases h3 : ss.length = 0 <;> by_cases h4 : cs.length = 0 <;> by_cases h5 : vs.length = 2 <;> simp [h1, h2, h3, h4, h5]
      rw [hh]
      by_cases h2 : vs.length = 2
      · obtain ⟨x, y, rfl⟩ := two_of_len h2
        rw [kids_two rfl rfl]
        cases n with
        | zero => simp [isT] at hs
        | succ n =>
          have ha := isT_ins hs a.er (by simp)
          have hb := isT_ins hs b.er (by simp)
          have i1 := ih x (by simp) a n (by omega) ha
          have i2 := ih y (by simp) b n (by omega) hb
          unfold noneT at i1 i2
          simp only at i1 i2
          simp only [List.all_cons, List.all_nil, Bool.and_true]
          rw [i1, i2, er_mk, ← Bool.decide_and, ← Bool.decide_and]
          refine decide_eq_decide.2 ?_
          rw [mk_inj]
          simp [and_assoc]
      · rw [decide_eq_false (fun h => h2 h.2.2.2.2), Bool.false_and]
        refine (decide_eq_false fun h => h2 ?_).symm
        rw [er_mk, mk_inj] at h
        have := congrArg List.length h.2.2.2.2
        simpa using this
    · rw [botT_zero (fun h => hk (by rw [← S2.er_k]; exact h.2))]
      have hh : hollowT (s, Vl.mk n0 m0 sA sc ss cA cc cs vA vc vs) = decide (n0 = 0 ∧ m0 = 0 ∧ ss.length = 0 ∧ cs.length = 0 ∧ vs.length = 0) := by
        show hollowK s.k n0 m0 ss.length cs.length vs.length = _
        unfold hollowK
        rw [if_neg hk, hasN_none]
      rw [hh]
      by_cases h0 : vs.length = 0
      · have hv : vs = [] := List.eq_nil_of_length_eq_zero h0
        subst hv
        rw [kids_nil rfl, List.all_nil, Bool.and_true, er_mk]
        refine decide_eq_decide.2 ?_
        rw [Va.zero, mk_inj]
        simp
      · rw [decide_eq_false (fun h => h0 h.2.2.2.2), Bool.false_and]
        refine (decide_eq_false fun h => h0 ?_).symm
        rw [er_mk, Va.zero, mk_inj] at h
        have := congrArg List.length h.2.2.2.2
        simpa using this
end Go.Proofs.YtdbohojncbeajaaGreat.V4

namespace Go.Proofs.YtdbohojncbeajaaGreat.V4
open S2 (Sc Tr isT)
open C3 (Tk isC cmpC)

theorem aheadC_trans : ∀ (a b c : List Tk), aheadC a b = true → aheadC b c = true → aheadC a c = true
  | [], [], _, h, _ => by simp [aheadC] at h
  | [], _ :: _, [], _, h => by simp [aheadC] at h
  | [], _ :: _, _ :: _, _, _ => by simp [aheadC]
  | _ :: _, [], _, h, _ => by simp [aheadC] at h
  | _ :: _, _ :: _, [], _, h => by simp [aheadC] at h
  | x :: a, y :: b, z :: c, h, h' => by
    simp only [aheadC] at h h' ⊢
    by_cases h1 : x.k = y.k
    · rw [if_pos h1] at h
      by_cases h2 : y.k = z.k
      · rw [if_pos h2] at h'
        rw [if_pos (h1.trans h2)]
        by_cases h3 : x.n = y.n
        · rw [if_pos h3] at h
          by_cases h4 : y.n = z.n
          · rw [if_pos h4] at h'
            rw [if_pos (h3.trans h4)]
            exact aheadC_trans a b c h h'
          · rw [if_neg h4] at h'
            rw [if_neg (by omega)]
            simp at h' ⊢; omega
        · rw [if_neg h3] at h
          by_cases h4 : y.n = z.n
          · rw [if_neg (by omega)]
            simp at h ⊢; omega
          · rw [if_neg h4] at h'
            simp at h h'
            rw [if_neg (by omega)]
            simp; omega
      · rw [if_neg h2] at h'
        rw [if_neg (by omega)]
        simp at h' ⊢; omega
    · rw [if_neg h1] at h
      by_cases h2 : y.k = z.k
      · rw [if_neg (by omega)]
        simp at h ⊢; omega
      · rw [if_neg h2] at h'
        simp at h h'
        rw [if_neg (by omega)]
        simp; omega

/-- The one is ahead of the other, and neither has seen the other. -/
def ApR (a b : List Tk) : Prop := aheadC a b = true ∧ cmpC a b = 2

theorem last_ahead {pre : List (List Tk)} {c : List Tk} (hp : pre.Pairwise ApR) : (lastAhead pre c = true ∧ ∀ d ∈ pre, cmpC d c = 2) ↔ (pre ++ [c]).Pairwise ApR := by
  rw [List.pairwise_append]
  constructor
  · rintro ⟨h1, h2⟩
    refine ⟨hp, List.pairwise_singleton _ _, fun d hd e he => ?_⟩
    rw [List.mem_singleton] at he
    subst he
    refine ⟨?_, h2 d hd⟩
    obtain ⟨l, hl⟩ : ∃ l, pre.getLast? = some l := by
      cases hl : pre.getLast? with
      | none => rw [List.getLast?_eq_none_iff] at hl; subst hl; cases hd
      | some l => exact ⟨l, rfl⟩
    unfold lastAhead at h1
    rw [hl] at h1
    obtain ⟨p, rfl⟩ : ∃ p, pre = p ++ [l] := by
      obtain ⟨p, hp⟩ := List.getLast?_eq_some_iff.1 hl
      exact ⟨p, hp⟩
    rcases List.mem_append.1 hd with hd | hd
    · exact aheadC_trans _ _ _ ((List.pairwise_append.1 hp).2.2 d hd l (by simp)).1 h1
    · rw [List.mem_singleton] at hd
      subst hd
      exact h1
  · rintro ⟨_, _, h⟩
    refine ⟨?_, fun d hd => (h d hd c (by simp)).2⟩
    unfold lastAhead
    cases hl : pre.getLast? with
    | none => rfl
    | some l => exact (h l (List.mem_of_getLast? hl) c (by simp)).1

theorem sibGo_iff (p : Va → Bool) : ∀ (cs : List (List Tk)) (vs : List Va) (pre : List (List Tk)), cs.length = vs.length → pre.Pairwise ApR →
    (sibGo p pre cs vs = true ↔ (∀ c ∈ cs, isC c = true) ∧ (∀ v ∈ vs, p v = true) ∧ (pre ++ cs).Pairwise ApR)
  | [], [], pre, _, hp => by simp [sibGo, hp]
  | [], _ :: _, _, h, _ => by simp at h
  | _ :: _, [], _, h, _ => by simp at h
  | c :: cs, v :: vs, pre, hl, hp => by
    rw [sibGo]
    simp only [Bool.and_eq_true, List.all_eq_true, decide_eq_true_eq]
    have hsplit : pre ++ c :: cs = (pre ++ [c]) ++ cs := by simp
    constructor
    · rintro ⟨h1, h2, h3, h4, h5⟩
      have hq := (last_ahead hp).1 ⟨h3, h4⟩
      obtain ⟨i1, i2, i3⟩ := (sibGo_iff p cs vs _ (by simpa using hl) hq).1 h5
      refine ⟨?_, ?_, by rw [hsplit]; exact i3⟩
      · intro d hd
        rcases List.mem_cons.1 hd with rfl | hd
        · exact h1
        · exact i1 d hd
      · intro d hd
        rcases List.mem_cons.1 hd with rfl | hd
        · exact h2
        · exact i2 d hd
    · rintro ⟨h1, h2, h3⟩
      rw [hsplit] at h3
      have hq := (List.pairwise_append.1 h3).1
      obtain ⟨j1, j2⟩ := (last_ahead hp).2 hq
      refine ⟨h1 c (by simp), h2 v (by simp), j1, j2, ?_⟩
      exact (sibGo_iff p cs vs _ (by simpa using hl) hq).2 ⟨fun d hd => h1 d (List.mem_cons_of_mem _ hd), fun d hd => h2 d (List.mem_cons_of_mem _ hd), h3⟩

theorem twos_iff (l : List Ck) : (twosTo l l.length).all apartC = true ↔ (l.map Ck.l).Pairwise ApR := by
  rw [List.all_eq_true, List.pairwise_map, List.pairwise_iff_getElem]
  constructor
  · intro h i j hi hj hij
    have := h _ (List.mem_of_getElem? (twos_at (List.getElem?_eq_getElem hj) (List.getElem?_eq_getElem hi) hij))
    unfold apartC at this
    simp at this
    exact this
  · rintro h ⟨a, b⟩ hx
    unfold twosTo at hx
    obtain ⟨j, hj, hx⟩ := List.mem_flatMap.1 hx
    have hj := List.mem_range.1 hj
    unfold twosAt at hx
    rw [List.getElem?_eq_getElem hj] at hx
    obtain ⟨c, hc, he⟩ := List.mem_map.1 hx
    cases he
    obtain ⟨i, hi, rfl⟩ := List.getElem_of_mem hc
    rw [List.length_take] at hi
    rw [List.getElem_take]
    have := h i j (by omega) hj (by omega)
    unfold apartC
    simp [this.1, this.2]

theorem sibs_eq (p : Va → Bool) (cs : List Ck) (vs : List Va) (hl : cs.length = vs.length) : (sibsC cs && vs.all p) = (decide (cs.length ≤ 40) && sibGo p [] (cs.map Ck.l) vs) := by
  rw [Bool.eq_iff_iff]
  unfold sibsC
  simp only [Bool.and_eq_true, decide_eq_true_eq]
  rw [sibGo_iff p _ _ _ (by simpa using hl) List.Pairwise.nil, twos_iff]
  simp only [List.nil_append, List.all_eq_true, List.mem_map, forall_exists_index, and_imp, forall_apply_eq_imp_iff₂]
  constructor
  · rintro ⟨⟨h1, h2, h3⟩, h4⟩; exact ⟨h1, h2, h4, h3⟩
  · rintro ⟨h1, h2, h4, h3⟩; exact ⟨⟨h1, h2, h3⟩, h4⟩

theorem short_long (ss : List Str) : shortV ss = !ss.any longS := by
  unfold shortV longS
  induction ss with
  | nil => rfl
  | cons s ss ih =>
    rw [List.all_cons, List.any_cons, ih, Bool.not_or]
    congr 1
    by_cases h : s.length ≤ 16
    · rw [decide_eq_true h, decide_eq_false (by omega)]; rfl
    · rw [decide_eq_false h, decide_eq_true (by omega)]; rfl

theorem hasN_s {n m : Int} {a b d : Nat} {p q s t : Bool} (h : hasN n m a b d p q false s t = true) : a = 0 := by
  unfold hasN at h; simp only [Bool.and_eq_true, Bool.false_or, decide_eq_true_eq] at h; exact h.2.2.1
theorem hasN_v {n m : Int} {a b d : Nat} {p q r s : Bool} (h : hasN n m a b d p q r s false = true) : d = 0 := by
  unfold hasN at h; simp only [Bool.and_eq_true, Bool.false_or, decide_eq_true_eq] at h; exact h.2.2.2.2

theorem srt_nil : decide (R1.Srt []) = true := by simp [R1.Srt]

theorem rightK (k : Int) (A : Option Addr) (c : Nat) (l : List Sc) (n m : Int) (sA : Option Addr) (sc : Nat) (ss : List Str) (cA : Option Addr) (cc : Nat) (cs : List Ck) (vA : Option Addr) (vc : Nat) (vs : List Vl) :
    rightT (Sc.mk k A c l, Vl.mk n m sA sc ss cA cc cs vA vc vs) = (flagsK k n m ss.length cs.length vs.length && formK k n m ss cs vs.length (filledT (Sc.mk k A c l, Vl.mk n m sA sc ss cA cc cs vA vc vs))) := rfl

theorem base_mk (k n m : Int) (s : List Str) (c : List (List Tk)) (v : List Va) : baseV k (.mk n m s c v) = (fitsV k (.mk n m s c v) && (decide (R1.Srt s) && decide (s.length ≤ 40))) := rfl
theorem sibs_mk (p : Va → Bool) (n m : Int) (s : List Str) (c : List (List Tk)) (v : List Va) : sibsV p (.mk n m s c v) = (decide (c.length ≤ 40) && sibGo p [] c v) := rfl

theorem and_same {h a b : Bool} (e : h = true → a = b) : (h && a) = (h && b) := by
  cases h with
  | false => rfl
  | true => rw [e rfl]

/-- All of it is right: a value by the schema. -/
theorem rightAll_isV : ∀ (v : Vl) (s : Sc) (n : Nat), n ≤ 16 → isT n s.er = true → rightAll (s, v) = isV s.er v.er := by
  intro v
  induction v using Vl.ind with
  | h n0 m0 sA sc ss cA cc cs vA vc vs ih =>
    intro s n hn hs
    unfold rightAll
    rw [all_tree]
    obtain ⟨k, A, c, l⟩ := s
    have hl : (l.length : Int) = S2.arI k := by
      rw [S2.er_mk] at hs
      have := isT_len hs
      rw [List.length_map] at this
      exact this
    rw [rightK, er_mk]
    rw [S2.er_mk] at hs ⊢
    have hlm : (cs.map Ck.l).length = cs.length := List.length_map _
    have hvm : (vs.map Vl.er).length = vs.length := List.length_map _
    by_cases k1 : k = 1
    · subst k1
      have h0 : l = [] := by apply List.eq_nil_of_length_eq_zero; rw [show S2.arI 1 = 0 by decide] at hl; omega
      subst h0
      rw [List.map_nil, isV, base_mk, fits_1, hlm, hvm, flagsK, if_pos rfl, formK, if_pos rfl]
      rw [if_neg (show ¬ (1 : Int) = 7 by decide), Bool.and_true, Bool.and_true]
      refine and_same fun h => ?_
      have hv : vs = [] := List.eq_nil_of_length_eq_zero (hasN_v h)
      have hss : ss = [] := List.eq_nil_of_length_eq_zero (hasN_s h)
      subst hv hss
      rw [kids_nil rfl]
      simp
    by_cases k2 : k = 2
    · subst k2
      have h0 : l = [] := by apply List.eq_nil_of_length_eq_zero; rw [show S2.arI 2 = 0 by decide] at hl; omega
      subst h0
      rw [List.map_nil, isV, base_mk, fits_2, hlm, hvm, flagsK, if_neg (by decide), if_pos rfl, formK, if_neg (by decide), if_pos rfl]
      rw [if_neg (show ¬ (2 : Int) = 7 by decide), Bool.and_true, Bool.and_assoc, Bool.and_assoc]
      refine and_same fun h => ?_
      have hv : vs = [] := List.eq_nil_of_length_eq_zero (hasN_v h)
      have hss : ss = [] := List.eq_nil_of_length_eq_zero (hasN_s h)
      subst hv hss
      rw [kids_nil rfl]
      simp
    by_cases k3 : k = 3
    · subst k3
      have h0 : l = [] := by apply List.eq_nil_of_length_eq_zero; rw [show S2.arI 3 = 0 by decide] at hl; omega
      subst h0
      rw [List.map_nil, isV, base_mk, fits_3, hlm, hvm, flagsK, if_neg (by decide), if_neg (by decide), if_pos rfl, formK, if_neg (by decide), if_neg (by decide), if_pos rfl]
      rw [if_neg (show ¬ (3 : Int) = 7 by decide), Bool.and_true, Bool.and_assoc, Bool.and_assoc]
      refine and_same fun h => ?_
      have hv : vs = [] := List.eq_nil_of_length_eq_zero (hasN_v h)
      subst hv
      rw [kids_nil rfl, List.all_nil, Bool.and_true, textsS, short_long]
      cases (!ss.any longS) <;> cases decide (R1.Srt ss) <;> cases decide (ss.length ≤ 40) <;> rfl
    by_cases k6 : k = 6
    · subst k6
      have h0 : l = [] := by apply List.eq_nil_of_length_eq_zero; rw [show S2.arI 6 = 0 by decide] at hl; omega
      subst h0
      rw [List.map_nil, isV, base_mk, fits_6, hlm, hvm, flagsK, if_neg (by decide), if_neg (by decide), if_neg (by decide), if_neg (by decide), if_neg (by decide), if_pos rfl, formK, if_neg (by decide), if_neg (by decide), if_neg (by decide), if_neg (by decide), if_neg (by decide), if_pos rfl]
      rw [if_neg (show ¬ (6 : Int) = 7 by decide), Bool.and_true]
      by_cases hs0 : ss.length = 0
      · have hss : ss = [] := List.eq_nil_of_length_eq_zero hs0
        subst hss
        rw [if_pos (show ([] : List Str).length = 0 from rfl)]
        have hw : writtenV n0 m0 [] = false := rfl
        rw [hw, Bool.or_false]
        have hi : ∀ (h : hasN n0 m0 ([] : List Str).length cs.length vs.length false false false false false = true), hasN n0 m0 ([] : List Str).length cs.length vs.length true true true false false = true ∧ vs = [] := fun h => by
          have hv := hasN_v h
          unfold hasN at h ⊢
          simp only [Bool.and_eq_true, Bool.false_or, Bool.true_or, decide_eq_true_eq] at h ⊢
          exact ⟨⟨trivial, trivial, trivial, h.2.2.2.1, h.2.2.2.2⟩, List.eq_nil_of_length_eq_zero hv⟩
        cases hq : hasN n0 m0 ([] : List Str).length cs.length vs.length false false false false false with
        | false => simp
        | true =>
          obtain ⟨h1, h2⟩ := hi hq
          subst h2
          rw [h1, kids_nil rfl]
          simp
      · rw [if_neg hs0]
        have hq : hasN n0 m0 ss.length cs.length vs.length false false false false false = false := by
          rw [hasN_none]; exact decide_eq_false fun h => hs0 h.2.2.1
        rw [hq, Bool.false_or, Bool.and_assoc, Bool.and_assoc]
        refine and_same fun h => ?_
        have hv : vs = [] := List.eq_nil_of_length_eq_zero (hasN_v h)
        subst hv
        rw [kids_nil rfl, List.all_nil, Bool.and_true]
        by_cases h1 : ss.length = 1
        · obtain ⟨s, rfl⟩ := one_of_len h1
          have hr : decide (R1.Srt [s]) = true := by simp [R1.Srt]
          rw [hr, short_long]
          simp only [writtenV]
          simp
        · have hw : writtenV n0 m0 ss = false := by
            unfold writtenV
            split
            · simp at h1
            · rfl
          rw [hw, decide_eq_false h1]
          simp
    by_cases k7 : k = 7
    · subst k7
      have h0 : l = [] := by apply List.eq_nil_of_length_eq_zero; rw [show S2.arI 7 = 0 by decide] at hl; omega
      subst h0
      rw [List.map_nil, isV, base_mk, fits_7, hlm, hvm, flagsK, if_neg (by decide), if_neg (by decide), if_neg (by decide), if_neg (by decide), if_neg (by decide), if_neg (by decide), if_pos rfl, formK, if_neg (by decide), if_neg (by decide), if_neg (by decide), if_neg (by decide), if_neg (by decide), if_neg (by decide), if_pos rfl]
      rw [if_pos rfl]
      simp only [Bool.and_assoc]
      refine and_same fun h => ?_
      have hv : vs = [] := List.eq_nil_of_length_eq_zero (hasN_v h)
      have hss : ss = [] := List.eq_nil_of_length_eq_zero (hasN_s h)
      subst hv hss
      rw [kids_nil rfl, List.all_nil, Bool.and_true]
      show _ = (_ && (_ && (_ && clockV (cs.map Ck.l))))
      rw [srt_nil]
      match cs with
      | [] => rfl
      | [c] =>
        have hd : decide (0 < c.l.length) = !decide (c.l = []) := by cases c.l <;> simp
        simp [clockV, idleC, Bool.and_comm]
        rw [hd]
      | _ :: _ :: _ => simp
    by_cases k4 : k = 4
    · subst k4
      obtain ⟨a, rfl⟩ := one_of_len (show l.length = 1 by rw [show S2.arI 4 = 1 by decide] at hl; omega)
      cases n with
      | zero => simp [isT] at hs
      | succ n =>
        have ha : isT n a.er = true := isT_ins hs a.er (by simp)
        have hfill : filledT (Sc.mk 4 A c [a], Vl.mk n0 m0 sA sc ss cA cc cs vA vc vs) = vs.all fun y => !decide (y.er = botT a.er) := by
          unfold filledT
          rw [kids_one rfl, List.all_map]
          refine all_mem_congr fun y _ => ?_
          simp only [Function.comp]
          rw [noneT_bot y a n (by omega) ha]
        have hkid : ((kidsT (Sc.mk 4 A c [a], Vl.mk n0 m0 sA sc ss cA cc cs vA vc vs)).all fun y => (treeT y.2 y.1).pre.all rightT) = vs.all fun y => isV a.er y.er := by
          rw [kids_one rfl, List.all_map]
          exact all_mem_congr fun y hy => ih y hy a n (by omega) ha
        rw [hkid, hfill, List.map_cons, List.map_nil, isV, base_mk, fits_4, hlm, hvm, flagsK, if_neg (by decide), if_neg (by decide), if_neg (by decide), if_pos rfl, formK, if_neg (by decide), if_neg (by decide), if_neg (by decide), if_pos rfl, if_pos rfl, textsS, short_long, mapV]
        show _ = (_ && (vs.map Vl.er).all _)
        rw [List.all_map]
        have hm : (vs.all ((fun y => isV a.er y && !decide (y = botT a.er)) ∘ Vl.er)) = ((vs.all fun y => isV a.er y.er) && vs.all fun y => !decide (y.er = botT a.er)) := by
          rw [Bool.eq_iff_iff]
          simp only [Bool.and_eq_true, List.all_eq_true, Function.comp]
          exact ⟨fun h => ⟨fun x hx => (h x hx).1, fun x hx => (h x hx).2⟩, fun h x hx => ⟨h.1 x hx, h.2 x hx⟩⟩
        rw [hm, show decide (ss.length = vs.length) = decide (vs.length = ss.length) from decide_eq_decide.2 eq_comm]
        generalize (vs.all fun y => isV a.er y.er) = P1
        generalize (vs.all fun y => !decide (y.er = botT a.er)) = P2
        generalize (!ss.any longS) = P3
        generalize decide (R1.Srt ss) = P4
        generalize decide (ss.length ≤ 40) = P5
        generalize decide (vs.length = ss.length) = P6
        generalize hasN _ _ _ _ _ _ _ _ _ _ = P7
        cases P1 <;> cases P2 <;> cases P3 <;> cases P4 <;> cases P5 <;> cases P6 <;> cases P7 <;> rfl
    by_cases k5 : k = 5
    · subst k5
      obtain ⟨a, b, rfl⟩ := two_of_len (show l.length = 2 by rw [show S2.arI 5 = 2 by decide] at hl; omega)
      cases n with
      | zero => simp [isT] at hs
      | succ n =>
        have ha : isT n a.er = true := isT_ins hs a.er (by simp)
        have hb : isT n b.er = true := isT_ins hs b.er (by simp)
        rw [List.map_cons, List.map_cons, List.map_nil, isV, base_mk, fits_5, hlm, hvm, flagsK, if_neg (by decide), if_neg (by decide), if_neg (by decide), if_neg (by decide), if_pos rfl, formK, if_neg (by decide), if_neg (by decide), if_neg (by decide), if_neg (by decide), if_pos rfl]
        simp only [Bool.and_assoc]
        refine and_same fun h => ?_
        have hss : ss = [] := List.eq_nil_of_length_eq_zero (hasN_s h)
        subst hss
        show _ = (_ && (_ && pairV _ _ (vs.map Vl.er)))
        rw [srt_nil]
        by_cases h2 : vs.length = 2
        · obtain ⟨x, y, rfl⟩ := two_of_len h2
          have i1 := ih x (by simp) a n (by omega) ha
          have i2 := ih y (by simp) b n (by omega) hb
          unfold rightAll at i1 i2
          simp only at i1 i2
          rw [kids_two rfl rfl]
          simp only [List.all_cons, List.all_nil, Bool.and_true, List.map_cons, List.map_nil, pairV]
          rw [i1, i2]
          rfl
        · rw [decide_eq_false h2]; rfl
    by_cases k8 : k = 8
    · subst k8
      obtain ⟨a, rfl⟩ := one_of_len (show l.length = 1 by rw [show S2.arI 8 = 1 by decide] at hl; omega)
      cases n with
      | zero => simp [isT] at hs
      | succ n =>
        have ha : isT n a.er = true := isT_ins hs a.er (by simp)
        have hkid : ((kidsT (Sc.mk 8 A c [a], Vl.mk n0 m0 sA sc ss cA cc cs vA vc vs)).all fun y => (treeT y.2 y.1).pre.all rightT) = (vs.map Vl.er).all (isV a.er) := by
          rw [kids_one rfl, List.all_map, List.all_map]
          exact all_mem_congr fun y hy => ih y hy a n (by omega) ha
        rw [hkid, List.map_cons, List.map_nil, isV, base_mk, fits_ne 8 (by decide) (by decide) (by decide) (by decide) (by decide) (by decide) (by decide), hlm, hvm, flagsK, if_neg (by decide), if_neg (by decide), if_neg (by decide), if_neg (by decide), if_neg (by decide), if_neg (by decide), if_neg (by decide), if_pos rfl,
          formK, if_neg (by decide), if_neg (by decide), if_neg (by decide), if_neg (by decide), if_neg (by decide), if_neg (by decide), if_neg (by decide), if_pos rfl, if_neg (by decide)]
        simp only [Bool.and_assoc]
        refine and_same fun h => ?_
        have hss : ss = [] := List.eq_nil_of_length_eq_zero (hasN_s h)
        subst hss
        rw [sibs_mk, srt_nil]
        refine and_same fun hd => ?_
        have := sibs_eq (isV a.er) cs (vs.map Vl.er) (by rw [hvm]; exact of_decide_eq_true hd)
        rw [this, hlm]
        rfl
    exfalso
    have : S2.arI k = -1 := by unfold S2.arI; rw [if_neg (by omega), if_neg (by omega), if_neg (by omega)]
    omega
end Go.Proofs.YtdbohojncbeajaaGreat.V4

namespace Go.Proofs.YtdbohojncbeajaaGreat.J5
open C3 (Tk)
open V4 (aheadC aheadC_trans)

/-- A comparison that orders. -/
structure Cmp {M : Type} (c : M → M → Int) : Prop where
  eq : ∀ {x y}, c x y = 0 → x = y
  refl : ∀ x, c x x = 0
  gt : ∀ {x y}, 0 < c x y → c y x < 0
  trans : ∀ {x y z}, c x y < 0 → c y z < 0 → c x z < 0

theorem cmpS_ok : Cmp cmpS := by
  have lt : ∀ {x y : Str}, cmpS x y < 0 → x < y := fun {x y} h => by
    unfold cmpS at h
    by_cases h1 : x < y
    · exact h1
    · rw [if_neg h1] at h
      split at h <;> omega
  have tl : ∀ {x y : Str}, x < y → cmpS x y < 0 := fun {x y} h => by unfold cmpS; rw [if_pos h]; decide
  refine ⟨fun {x y} h => ?_, fun x => ?_, fun {x y} h => ?_, fun h1 h2 => tl (R1.str_trans (lt h1) (lt h2))⟩
  · unfold cmpS at h
    rcases R1.str_tri x y with h1 | h1 | h1
    · rw [if_pos h1] at h; omega
    · exact h1
    · rw [if_neg (R1.str_asymm h1), if_pos h1] at h; omega
  · unfold cmpS; rw [if_neg (R1.str_irrefl x), if_neg (R1.str_irrefl x)]
  · refine tl ?_
    unfold cmpS at h
    by_cases h1 : x < y
    · rw [if_pos h1] at h; omega
    · rw [if_neg h1] at h
      by_cases h2 : y < x
      · exact h2
      · rw [if_neg h2] at h; omega

theorem aheadC_irrefl : ∀ a : List Tk, aheadC a a = false
  | [] => by simp [aheadC]
  | x :: a => by simp only [aheadC, if_true]; exact aheadC_irrefl a
theorem aheadC_tri : ∀ a b : List Tk, aheadC a b = false → aheadC b a = false → a = b
  | [], [], _, _ => rfl
  | [], _ :: _, h, _ => by simp [aheadC] at h
  | _ :: _, [], _, h => by simp [aheadC] at h
  | x :: a, y :: b, h, h' => by
    simp only [aheadC] at h h'
    by_cases h1 : x.k = y.k
    · rw [if_pos h1] at h
      rw [if_pos h1.symm] at h'
      by_cases h2 : x.n = y.n
      · rw [if_pos h2] at h
        rw [if_pos h2.symm] at h'
        have e : x = y := by cases x; cases y; simp at h1 h2; simp [h1, h2]
        rw [e, aheadC_tri a b h h']
      · rw [if_neg h2] at h
        rw [if_neg (Ne.symm h2)] at h'
        simp at h h'; omega
    · rw [if_neg h1] at h
      rw [if_neg (Ne.symm h1)] at h'
      simp at h h'; omega

theorem cmpT_lt {a b : List Tk} : cmpT a b < 0 ↔ aheadC a b = true := by
  unfold cmpT
  by_cases h1 : aheadC a b = true
  · rw [if_pos h1]; simp [h1]
  · rw [if_neg h1]
    split <;> simp_all
theorem cmpT_ok : Cmp cmpT := by
  refine ⟨fun {x y} h => ?_, fun x => ?_, fun {x y} h => ?_, fun h1 h2 => cmpT_lt.2 (aheadC_trans _ _ _ (cmpT_lt.1 h1) (cmpT_lt.1 h2))⟩
  · unfold cmpT at h
    by_cases h1 : aheadC x y = true
    · rw [if_pos h1] at h; omega
    · rw [if_neg h1] at h
      by_cases h2 : aheadC y x = true
      · rw [if_pos h2] at h; omega
      · exact aheadC_tri x y (by simpa using h1) (by simpa using h2)
  · unfold cmpT; rw [aheadC_irrefl]; simp
  · refine cmpT_lt.2 ?_
    unfold cmpT at h
    by_cases h1 : aheadC x y = true
    · rw [if_pos h1] at h; omega
    · rw [if_neg h1] at h
      by_cases h2 : aheadC y x = true
      · exact h2
      · rw [if_neg h2] at h; omega

section
variable {M V : Type} {c : M → M → Int} {z : V}

/-- Marks that rise. -/
abbrev Up (c : M → M → Int) (l : List (M × V)) : Prop := l.Pairwise fun p q => c p.1 q.1 < 0

theorem Cmp.ne (hc : Cmp c) {x y : M} (h : c x y < 0) : x ≠ y := by
  rintro rfl
  rw [hc.refl] at h
  omega

/-- At one mark there is one. -/
theorem up_one (hc : Cmp c) {l : List (M × V)} (h : Up c l) {p q : M × V} (hp : p ∈ l) (hq : q ∈ l) (e : p.1 = q.1) : p = q := by
  induction l with
  | nil => cases hp
  | cons x l ih =>
    obtain ⟨h1, h2⟩ := List.pairwise_cons.1 h
    rcases List.mem_cons.1 hp with rfl | hp' <;> rcases List.mem_cons.1 hq with rfl | hq'
    · rfl
    · exact absurd e (hc.ne (h1 q hq'))
    · exact absurd e.symm (hc.ne (h1 p hp'))
    · exact ih h2 hp' hq'

/-- Lines that have the same in them are the same. -/
theorem up_ext (hc : Cmp c) : ∀ {a b : List (M × V)}, Up c a → Up c b → (∀ p, p ∈ a ↔ p ∈ b) → a = b
  | [], [], _, _, _ => rfl
  | [], y :: b, _, _, h => by have := (h y).2 (by simp); cases this
  | x :: a, [], _, _, h => by have := (h x).1 (by simp); cases this
  | x :: a, y :: b, ha, hb, h => by
    obtain ⟨a1, a2⟩ := List.pairwise_cons.1 ha
    obtain ⟨b1, b2⟩ := List.pairwise_cons.1 hb
    have e : x = y := by
      rcases List.mem_cons.1 ((h x).1 (by simp)) with e | e
      · exact e
      · rcases List.mem_cons.1 ((h y).2 (by simp)) with e2 | e2
        · exact e2.symm
        · have h1 := b1 x e
          have h2 := a1 y e2
          have := hc.trans h1 h2
          rw [hc.refl] at this
          omega
    subst e
    rw [up_ext hc a2 b2 fun p => ⟨fun hp => ?_, fun hp => ?_⟩]
    · rcases List.mem_cons.1 ((h p).1 (by simp [hp])) with e | e
      · subst e; exact absurd rfl (hc.ne (a1 p hp))
      · exact e
    · rcases List.mem_cons.1 ((h p).2 (by simp [hp])) with e | e
      · subst e; exact absurd rfl (hc.ne (b1 p hp))
      · exact e

/-- What stands in both lines together. -/
def InMix (z : V) (a b : List (M × V)) (p : M × V × V) : Prop :=
  ((p.1, p.2.1) ∈ a ∧ (p.1, p.2.2) ∈ b) ∨ ((p.1, p.2.1) ∈ a ∧ (∀ q ∈ b, q.1 ≠ p.1) ∧ p.2.2 = z) ∨ ((∀ q ∈ a, q.1 ≠ p.1) ∧ p.2.1 = z ∧ (p.1, p.2.2) ∈ b)

theorem mem_mix (hc : Cmp c) (a b : List (M × V)) : Up c a → Up c b → ∀ p, p ∈ mix c z a b ↔ InMix z a b p := by
  induction a, b using mix.induct (c := c) with
  | case1 b =>
    intro _ _ p
    rw [mix, List.mem_map]
    constructor
    · rintro ⟨y, hy, rfl⟩
      exact .inr (.inr ⟨fun _ h => (by cases h), rfl, hy⟩)
    · rintro (⟨h, _⟩ | ⟨h, _⟩ | ⟨_, h1, h2⟩)
      · cases h
      · cases h
      · exact ⟨_, h2, by rw [← h1]⟩
  | case2 x a =>
    intro _ _ p
    rw [mix, List.mem_map]
    constructor
    · rintro ⟨y, hy, rfl⟩
      exact .inr (.inl ⟨hy, fun _ h => (by cases h), rfl⟩)
    · rintro (⟨_, h⟩ | ⟨h1, _, h2⟩ | ⟨_, _, h⟩)
      · cases h
      · exact ⟨_, h1, by rw [← h2]⟩
      · cases h
  | case3 x a y b h ih =>
    intro ha hb p
    obtain ⟨a1, a2⟩ := List.pairwise_cons.1 ha
    obtain ⟨b1, b2⟩ := List.pairwise_cons.1 hb
    have hxb : ∀ q ∈ y :: b, q.1 ≠ x.1 := fun q hq e => by
      rcases List.mem_cons.1 hq with rfl | hq
      · exact hc.ne h e.symm
      · exact hc.ne (hc.trans h (b1 q hq)) e.symm
    rw [mix_lt c z a b h, List.mem_cons, ih a2 hb p]
    constructor
    · rintro (rfl | h1 | ⟨h1, h2⟩ | ⟨h1, h2, h3⟩)
      · exact .inr (.inl ⟨by simp, hxb, rfl⟩)
      · exact .inl ⟨by simp [h1.1], h1.2⟩
      · exact .inr (.inl ⟨by simp [h1], h2⟩)
      · refine .inr (.inr ⟨fun q hq e => ?_, h2, h3⟩)
        rcases List.mem_cons.1 hq with rfl | hq
        · exact hxb _ h3 e.symm
        · exact h1 q hq e
    · rintro (⟨h1, h2⟩ | ⟨h1, h2, h3⟩ | ⟨h1, h2, h3⟩)
      · rcases List.mem_cons.1 h1 with e | h1
        · exact absurd (by rw [← e]) (hxb _ h2)
        · exact .inr (.inl ⟨h1, h2⟩)
      · rcases List.mem_cons.1 h1 with e | h1
        · refine .inl ?_
          rw [← e, ← h3]
        · exact .inr (.inr (.inl ⟨h1, h2, h3⟩))
      · exact .inr (.inr (.inr ⟨fun q hq => h1 q (by simp [hq]), h2, h3⟩))
  | case4 x a y b h h' ih =>
    intro ha hb p
    obtain ⟨a1, a2⟩ := List.pairwise_cons.1 ha
    obtain ⟨b1, b2⟩ := List.pairwise_cons.1 hb
    have h2 := hc.gt h'
    have hya : ∀ q ∈ x :: a, q.1 ≠ y.1 := fun q hq e => by
      rcases List.mem_cons.1 hq with rfl | hq
      · exact hc.ne h2 e.symm
      · exact hc.ne (hc.trans h2 (a1 q hq)) e.symm
    rw [mix_gt c z a b h', List.mem_cons, ih ha b2 p]
    constructor
    · rintro (rfl | h1 | ⟨h1, h3, h4⟩ | ⟨h1, h3, h4⟩)
      · exact .inr (.inr ⟨hya, rfl, by simp⟩)
      · exact .inl ⟨h1.1, by simp [h1.2]⟩
      · refine .inr (.inl ⟨h1, fun q hq e => ?_, h4⟩)
        rcases List.mem_cons.1 hq with rfl | hq
        · exact hya _ h1 e.symm
        · exact h3 q hq e
      · exact .inr (.inr ⟨h1, h3, by simp [h4]⟩)
    · rintro (⟨h1, h3⟩ | ⟨h1, h3, h4⟩ | ⟨h1, h3, h4⟩)
      · rcases List.mem_cons.1 h3 with e | h3
        · exact absurd (by rw [← e]) (hya _ h1)
        · exact .inr (.inl ⟨h1, h3⟩)
      · exact .inr (.inr (.inl ⟨h1, fun q hq => h3 q (by simp [hq]), h4⟩))
      · rcases List.mem_cons.1 h4 with e | h4
        · refine .inl ?_
          rw [← e, ← h3]
        · exact .inr (.inr (.inr ⟨h1, h3, h4⟩))
  | case5 x a y b h h' ih =>
    intro ha hb p
    obtain ⟨a1, a2⟩ := List.pairwise_cons.1 ha
    obtain ⟨b1, b2⟩ := List.pairwise_cons.1 hb
    have h0 : c x.1 y.1 = 0 := by omega
    have e0 : x.1 = y.1 := hc.eq h0
    rw [mix_eq c z a b h0, List.mem_cons, ih a2 b2 p]
    constructor
    · rintro (rfl | h1 | ⟨h1, h3, h4⟩ | ⟨h1, h3, h4⟩)
      · exact .inl ⟨by rw [← e0]; simp, by simp⟩
      · exact .inl ⟨by simp [h1.1], by simp [h1.2]⟩
      · refine .inr (.inl ⟨by simp [h1], fun q hq e => ?_, h4⟩)
        rcases List.mem_cons.1 hq with rfl | hq
        · exact hc.ne (a1 _ h1) (e0.trans e)
        · exact h3 q hq e
      · refine .inr (.inr ⟨fun q hq e => ?_, h3, by simp [h4]⟩)
        rcases List.mem_cons.1 hq with rfl | hq
        · exact hc.ne (b1 _ h4) (e0.symm.trans e)
        · exact h1 q hq e
    · rintro (⟨h1, h3⟩ | ⟨h1, h3, h4⟩ | ⟨h1, h3, h4⟩)
      · rcases List.mem_cons.1 h1 with e | h1 <;> rcases List.mem_cons.1 h3 with e2 | h3
        · refine .inl ?_
          rw [← e, ← e2]
        · exact absurd (by rw [← e0, ← e]) (hc.ne (b1 _ h3))
        · exact absurd (by rw [e0, ← e2]) (hc.ne (a1 _ h1))
        · exact .inr (.inl ⟨h1, h3⟩)
      · rcases List.mem_cons.1 h1 with e | h1
        · exact absurd (by rw [← e0, ← e]) (h3 y (by simp))
        · exact .inr (.inr (.inl ⟨h1, fun q hq => h3 q (by simp [hq]), h4⟩))
      · rcases List.mem_cons.1 h4 with e | h4
        · exact absurd (by rw [e0, ← e]) (h1 x (by simp))
        · exact .inr (.inr (.inr ⟨fun q hq => h1 q (by simp [hq]), h3, h4⟩))

/-- Its marks rise. -/
theorem mix_up (hc : Cmp c) (a b : List (M × V)) : Up c a → Up c b → Up c (mix c z a b) := by
  have low : ∀ (m : M) (a b : List (M × V)), (∀ q ∈ a, c m q.1 < 0) → (∀ q ∈ b, c m q.1 < 0) → ∀ p ∈ mix c z a b, c m p.1 < 0 := fun m a b h1 h2 p hp => by
    rcases (mix_mem c z a b hp).2.2 with ⟨x, hx, e⟩ | ⟨x, hx, e⟩
    · rw [← e]; exact h1 x hx
    · rw [← e]; exact h2 x hx
  induction a, b using mix.induct (c := c) with
  | case1 b => intro _ hb; rw [mix]; exact List.pairwise_map.2 hb
  | case2 x a => intro ha _; rw [mix]; exact List.pairwise_map.2 ha
  | case3 x a y b h ih =>
    intro ha hb
    obtain ⟨a1, a2⟩ := List.pairwise_cons.1 ha
    obtain ⟨b1, b2⟩ := List.pairwise_cons.1 hb
    rw [mix_lt c z a b h]
    refine List.pairwise_cons.2 ⟨low x.1 a (y :: b) a1 fun q hq => ?_, ih a2 hb⟩
    rcases List.mem_cons.1 hq with rfl | hq
    · exact h
    · exact hc.trans h (b1 q hq)
  | case4 x a y b h h' ih =>
    intro ha hb
    obtain ⟨a1, a2⟩ := List.pairwise_cons.1 ha
    obtain ⟨b1, b2⟩ := List.pairwise_cons.1 hb
    have h2 := hc.gt h'
    rw [mix_gt c z a b h']
    refine List.pairwise_cons.2 ⟨low y.1 (x :: a) b (fun q hq => ?_) b1, ih ha b2⟩
    rcases List.mem_cons.1 hq with rfl | hq
    · exact h2
    · exact hc.trans h2 (a1 q hq)
  | case5 x a y b h h' ih =>
    intro ha hb
    obtain ⟨a1, a2⟩ := List.pairwise_cons.1 ha
    obtain ⟨b1, b2⟩ := List.pairwise_cons.1 hb
    have h0 : c x.1 y.1 = 0 := by omega
    have e0 : x.1 = y.1 := hc.eq h0
    rw [mix_eq c z a b h0]
    exact List.pairwise_cons.2 ⟨low y.1 a b (e0 ▸ a1) b1, ih a2 b2⟩
end

/-- What comes of it. -/
theorem mem_allE {M V W : Type} {f : V → V → Option W} : ∀ {l : List (M × V × V)} {r : List (M × W)}, allE f l = some r → ∀ p, p ∈ r ↔ ∃ q ∈ l, q.1 = p.1 ∧ f q.2.1 q.2.2 = some p.2
  | [], r, h, p => by simp [allE] at h; subst h; simp
  | q :: l, r, h, p => by
    rw [allE] at h
    cases hf : f q.2.1 q.2.2 with
    | none => rw [hf] at h; simp at h
    | some v =>
      rw [hf] at h
      cases ha : allE f l with
      | none => rw [ha] at h; simp at h
      | some x =>
        rw [ha] at h
        simp at h
        subst h
        rw [List.mem_cons, mem_allE ha p]
        constructor
        · rintro (rfl | ⟨q', h1, h2⟩)
          · exact ⟨q, by simp, rfl, hf⟩
          · exact ⟨q', by simp [h1], h2⟩
        · rintro ⟨q', h1, h2, h3⟩
          rcases List.mem_cons.1 h1 with rfl | h1
          · refine .inl (Prod.ext h2.symm ?_)
            rw [hf] at h3
            exact (Option.some.inj h3).symm
          · exact .inr ⟨q', h1, h2, h3⟩
theorem togE_marks' {M V W : Type} {f : V → V → Option W} : ∀ {l : List (M × V × V)} {r : List (M × W)}, allE f l = some r → r.map (·.1) = l.map (·.1)
  | [], r, h => by simp [allE] at h; subst h; rfl
  | q :: l, r, h => by
    rw [allE] at h
    cases hf : f q.2.1 q.2.2 with
    | none => rw [hf] at h; simp at h
    | some v =>
      rw [hf] at h
      cases ha : allE f l with
      | none => rw [ha] at h; simp at h
      | some x =>
        rw [ha] at h
        simp at h
        subst h
        rw [List.map_cons, List.map_cons, togE_marks' ha]
theorem up_of_marks {M V W : Type} {c : M → M → Int} {l : List (M × V)} {r : List (M × W)} (h : r.map (·.1) = l.map (·.1)) (hl : Up c l) : Up c r := by
  have h1 : (l.map (·.1)).Pairwise (fun x y => c x y < 0) := List.pairwise_map.2 hl
  rw [← h] at h1
  exact List.pairwise_map.1 h1
end Go.Proofs.YtdbohojncbeajaaGreat.J5

namespace Go.Proofs.YtdbohojncbeajaaGreat.J5
open C3 (Tk isC cmpC)
open S2 (Tr isT arI)
open V4 (Va isV baseV fitsV hasV hasN shortV mapV pairV clockV sibsV sibGo ApR botT)

theorem isV_num {k : Int} {x : Va} (hk : k = 1 ∨ k = 2) : isV (.mk k []) x = true ↔ ∃ n : Int, x = .mk n 0 [] [] [] ∧ (k = 2 → n ≤ 1) := by
  obtain ⟨n, m, s, c, v⟩ := x
  rw [isV, V4.base_mk]
  rcases hk with rfl | rfl
  · rw [V4.fits_1]
    simp [hasN]
    rintro _ rfl _ _; simp
  · rw [V4.fits_2]
    simp [hasN]
    constructor
    · rintro ⟨⟨⟨rfl, rfl, rfl, rfl⟩, h⟩, _⟩; exact ⟨n, ⟨rfl, rfl, rfl, rfl, rfl⟩, h⟩
    · rintro ⟨_, ⟨rfl, rfl, rfl, rfl, rfl⟩, h⟩; simp [h]

theorem isV_set {x : Va} : isV (.mk 3 []) x = true ↔ ∃ s, x = .mk 0 0 s [] [] ∧ R1.Srt s ∧ s.length ≤ 40 ∧ shortV s = true := by
  obtain ⟨n, m, s, c, v⟩ := x
  rw [isV, V4.base_mk, V4.fits_3]
  simp [hasN]
  constructor
  · rintro ⟨⟨⟨rfl, rfl, rfl, rfl⟩, h⟩, h1, h2⟩; exact ⟨s, ⟨rfl, rfl, rfl, rfl, rfl⟩, h1, h2, h⟩
  · rintro ⟨_, ⟨rfl, rfl, rfl, rfl, rfl⟩, h1, h2, h⟩; simp [h, h1, h2]

theorem isV_last {x : Va} : isV (.mk 6 []) x = true ↔ x = .zero ∨ ∃ (n m : Int) (t : Str), x = .mk n m [t] [] [] ∧ shortV [t] = true ∧ (n ≠ 0 ∨ m ≠ 0 ∨ t ≠ []) := by
  obtain ⟨n, m, s, c, v⟩ := x
  rw [isV, V4.base_mk, V4.fits_6]
  match s with
  | [] =>
    simp [hasN, Va.zero]
  | [t] =>
    simp [hasN, Va.zero]
    constructor
    · rintro ⟨⟨h1, h2⟩, h3, h4⟩; exact ⟨n, m, t, ⟨rfl, rfl, rfl, h1, h2⟩, h3, h4⟩
    · rintro ⟨n', m', t', ⟨rfl, rfl, rfl, rfl, rfl⟩, h3, h4⟩; exact ⟨⟨rfl, rfl⟩, h3, h4⟩
  | t :: u :: r =>
    simp [hasN, Va.zero]

theorem isV_clock {x : Va} : isV (.mk 7 []) x = true ↔ x = .zero ∨ ∃ c, x = .mk 0 0 [] [c] [] ∧ isC c = true ∧ c ≠ [] := by
  obtain ⟨n, m, s, c, v⟩ := x
  rw [isV, V4.base_mk, V4.fits_7]
  match c with
  | [] =>
    simp [hasN, clockV, Va.c, Va.zero]
    rintro _ _ rfl _; simp
  | [k] =>
    simp [hasN, clockV, Va.c, Va.zero]
    constructor
    · rintro ⟨⟨⟨rfl, rfl, rfl, rfl⟩, _⟩, h1, h2⟩; exact ⟨k, ⟨rfl, rfl, rfl, rfl, rfl⟩, h1, by intro e; subst e; simp at h2⟩
    · rintro ⟨_, ⟨rfl, rfl, rfl, rfl, rfl⟩, h1, h2⟩; simp [h1]; exact List.length_pos_iff.2 h2
  | k :: l :: r =>
    simp [hasN, clockV, Va.c, Va.zero]

theorem isV_map {a : Tr} {x : Va} : isV (.mk 4 [a]) x = true ↔ ∃ s v, x = .mk 0 0 s [] v ∧ R1.Srt s ∧ s.length = v.length ∧ s.length ≤ 40 ∧ shortV s = true ∧ ∀ y ∈ v, isV a y = true ∧ y ≠ botT a := by
  obtain ⟨n, m, s, c, v⟩ := x
  rw [isV, V4.base_mk, V4.fits_4]
  simp [hasN, mapV, Va.v]
  constructor
  · rintro ⟨⟨⟨⟨rfl, rfl, rfl⟩, h1, h2⟩, h3, h4⟩, h5⟩; exact ⟨s, v, ⟨rfl, rfl, rfl, rfl, rfl⟩, h3, h2, h4, h1, h5⟩
  · rintro ⟨_, _, ⟨rfl, rfl, rfl, rfl, rfl⟩, h3, h2, h4, h1, h5⟩; exact ⟨⟨⟨⟨rfl, rfl, rfl⟩, h1, h2⟩, h3, h4⟩, h5⟩

theorem isV_pair {a b : Tr} {x : Va} : isV (.mk 5 [a, b]) x = true ↔ ∃ u v, x = .mk 0 0 [] [] [u, v] ∧ isV a u = true ∧ isV b v = true := by
  obtain ⟨n, m, s, c, v⟩ := x
  rw [isV, V4.base_mk, V4.fits_5]
  match v with
  | [] => simp [hasN, pairV, Va.v]
  | [_] => simp [hasN, pairV, Va.v]
  | [p, q] =>
    simp [hasN, pairV, Va.v]
    constructor
    · rintro ⟨⟨⟨rfl, rfl, rfl, rfl⟩, _⟩, h1, h2⟩; exact ⟨p, q, ⟨rfl, rfl, rfl, rfl, rfl, rfl⟩, h1, h2⟩
    · rintro ⟨_, _, ⟨rfl, rfl, rfl, rfl, rfl, rfl⟩, h1, h2⟩; simp [h1, h2]
  | _ :: _ :: _ :: _ => simp [hasN, pairV, Va.v]

theorem isV_cause {a : Tr} {x : Va} : isV (.mk 8 [a]) x = true ↔ ∃ c v, x = .mk 0 0 [] c v ∧ c.length = v.length ∧ c.length ≤ 40 ∧ c.Pairwise ApR ∧ (∀ k ∈ c, isC k = true) ∧ ∀ y ∈ v, isV a y = true := by
  obtain ⟨n, m, s, c, v⟩ := x
  rw [isV, V4.base_mk, V4.fits_ne 8 (by decide) (by decide) (by decide) (by decide) (by decide) (by decide) (by decide), V4.sibs_mk]
  by_cases hl : c.length = v.length
  · have := V4.sibGo_iff (isV a) c v [] hl List.Pairwise.nil
    rw [List.nil_append] at this
    simp [hasN, this]
    constructor
    · rintro ⟨⟨⟨⟨rfl, rfl, rfl⟩, _⟩, _⟩, h1, h2, h3, h4⟩; exact ⟨c, v, ⟨rfl, rfl, rfl, rfl, rfl⟩, hl, h1, h4, h2, h3⟩
    · rintro ⟨_, _, ⟨rfl, rfl, rfl, rfl, rfl⟩, _, h1, h4, h2, h3⟩; exact ⟨⟨⟨⟨rfl, rfl, rfl⟩, hl⟩, by simp⟩, h1, h2, h3, h4⟩
  · simp [hasN, hl]
    rintro _ _ rfl rfl rfl rfl rfl h
    exact absurd h hl

/-- What a schema can be. -/
theorem isT_cases {n : Nat} {t : Tr} (h : isT n t = true) : ∃ m, n = m + 1 ∧ ((∃ k, (k = 1 ∨ k = 2 ∨ k = 3 ∨ k = 6 ∨ k = 7) ∧ t = .mk k []) ∨ (∃ k a, (k = 4 ∨ k = 8) ∧ t = .mk k [a] ∧ isT m a = true) ∨ (∃ a b, t = .mk 5 [a, b] ∧ isT m a = true ∧ isT m b = true)) := by
  cases n with
  | zero => simp [isT] at h
  | succ m =>
    refine ⟨m, rfl, ?_⟩
    obtain ⟨k, l⟩ := t
    rw [isT, Bool.and_eq_true, decide_eq_true_eq, List.all_eq_true] at h
    obtain ⟨h1, h2⟩ := h
    replace h1 : (l.length : Int) = arI k := h1
    replace h2 : ∀ x ∈ l, isT m x = true := h2
    unfold arI at h1
    by_cases hk : k = 1 ∨ k = 2 ∨ k = 3 ∨ k = 6 ∨ k = 7
    · rw [if_pos hk] at h1
      exact .inl ⟨k, hk, by rw [List.eq_nil_of_length_eq_zero (l := l) (by omega)]⟩
    · rw [if_neg hk] at h1
      by_cases hk2 : k = 4 ∨ k = 8
      · rw [if_pos hk2] at h1
        obtain ⟨a, rfl⟩ := List.length_eq_one_iff.1 (show l.length = 1 by omega)
        exact .inr (.inl ⟨k, a, hk2, rfl, h2 a (by simp)⟩)
      · rw [if_neg hk2] at h1
        by_cases hk3 : k = 5
        · rw [if_pos hk3] at h1
          obtain ⟨a, b, rfl⟩ : ∃ a b, l = [a, b] := by
            match l, h1 with
            | [a, b], _ => exact ⟨a, b, rfl⟩
          subst hk3
          exact .inr (.inr ⟨a, b, rfl, h2 a (by simp), h2 b (by simp)⟩)
        · rw [if_neg hk3] at h1
          omega
end Go.Proofs.YtdbohojncbeajaaGreat.J5
