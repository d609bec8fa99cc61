/- What the law's own test, known, answers: yes. No condition. What the law's own helper, of, answers; two versions of one tick each: plain mathematics, and in memory. No condition. Some values joined: plain mathematics. No condition. Rows gone through together, where one of them is short; sets with nothing: plain mathematics. No condition. Joining with nothing; what stands at the marks of two rows that are joined: plain mathematics. No condition but that the schema is one, and that the values are of it. Values of which one is not more than the other: together they are told, and are that other one. Plain mathematics. No condition but that the schema is one, and that the values are of it. What errors.Is does with errors that are numbers. No condition. -/
import Derived.Test.YtdbohojncbeajaaGreatMo24
import Derived.Test.YtdbohojncbeajaaGreatMo21
import Derived.Test.YtdbohojncbeajaaGreatMo04
import Derived.Test.YtdbohojncbeajaaGreatMo12
import Derived.Stop.Asserts
import Derived.LaidEql
namespace Go.Proofs.YtdbohojncbeajaaGreat.V4
open Go.RowKit Go.Shelf
open C3 (Tk isC belAl)
open S2 (Sc Tr isT allocB)

/-- A variable: its cells. -/
def Bxd (W : World) (b : Nat) (cs : Array Value) : Prop := b < W.heap.size ∧ ∀ i v, cs[i]? = some v → W.cell? ⟨b, i, none⟩ = some v
theorem Bxd.later {W W' : World} {b : Nat} {cs : Array Value} (h : Bxd W b cs) (hb : Below W.heap.size W W') : Bxd W' b cs := ⟨Nat.lt_of_lt_of_le h.1 hb.size, fun i v hv => (hb.cell (p := ⟨b, i, none⟩) h.1).trans (h.2 i v hv)⟩
theorem Bxd.new {W : World} {cs : Array Value} {t : TypeId} : Bxd (W.alloc (.cells cs t)) W.heap.size cs := ⟨by simp, fun i v h => alloc_cells i v h⟩
theorem Bxd.al {W : World} {b : Nat} {cs : Array Value} (h : Bxd W b cs) (o : Obj) : Bxd (W.alloc o) b cs := h.later (allocB W o)

/-- A schema without any in it, a value without any: wherever. -/
def scLeaf (k : Int) : Sc := .mk k none 0 []
def vlNum (n : Int) : Vl := .mk n 0 none 0 [] none 0 [] none 0 []
theorem scLeaf_in (k : Int) (P : Nat → Prop) (W : World) : (scLeaf k).Inp P W := .mk _ _ _ _ (.inl rfl) (by simp) (by simp) (by simp) (by simp)
theorem vlNum_in (n : Int) (hn : 0 ≤ n ∧ n ≤ 18446744073709551615) (P : Nat → Prop) (W : World) : (vlNum n).Inp P W :=
  .mk _ _ _ _ _ _ _ _ _ _ _ hn (by omega) .nil (by simp [maxLen]) (by simp) .nil (by simp [maxLen]) (by simp) .nil (by simp [maxLen]) (by simp)
/-- A value of texts alone, that lie in block b. -/
def vlTexts (n b : Nat) (ss : List Str) : Vl := .mk n 0 (some ⟨b, 0, none⟩) ss.length ss none 0 [] none 0 []
theorem vlTexts_in {W : World} {b : Nat} {ss : List Str} {cs : Array Value} (n : Nat) (hn : n ≤ 1000) (h : Bxd W b cs) (hcs : cs = (cellsS ss).toArray) (hl : ss.length ≤ 1000) (ht : ∀ s ∈ ss, s.length ≤ 1000) : (vlTexts n b ss).In W := by
  refine .mk _ _ _ _ _ _ _ _ _ _ _ (by omega) (by omega) (.inr ⟨b, 0, rfl, h.1, fun i u hu => ?_⟩) (by simp [maxLen]; omega) (fun s hs => by have := ht s hs; unfold maxLen; omega) .nil (by simp [maxLen]) (by simp) .nil (by simp [maxLen]) (by simp)
  rw [Nat.zero_add]
  exact h.2 i u (by rw [hcs]; simpa using hu)

/-- A schema of one or two that lie in block b. -/
def scRow (k : Int) (b : Nat) (l : List Sc) : Sc := .mk k (some ⟨b, 0, none⟩) l.length l
theorem scRow_in {W : World} {b : Nat} {l : List Sc} {cs : Array Value} (k : Int) (h : Bxd W b cs) (hcs : cs = (l.flatMap fun s => [.int .i64 s.k, s.v1]).toArray) (hl : l.length ≤ 1000) (hin : ∀ s ∈ l, s.In W.heap.size W) : (scRow k b l).In W.heap.size W := by
  refine .mk _ _ _ _ (.inr ⟨b, 0, rfl, h.1, fun i s hs => ?_⟩) (Nat.le_refl _) (by omega) (by omega) hin
  have hc : ∀ (l : List Sc) (i : Nat) (s : Sc), l[i]? = some s → (l.flatMap fun s => [Value.int .i64 s.k, s.v1])[i * 2]? = some (.int .i64 s.k) ∧ (l.flatMap fun s => [Value.int .i64 s.k, s.v1])[i * 2 + 1]? = some s.v1 := fun l => by
    induction l with
    | nil => intro i s h; simp at h
    | cons y l ih =>
      intro i s h
      cases i with
      | zero => simp at h; subst h; simp
      | succ i =>
        have := ih i s (by simpa using h)
        rw [show (i + 1) * 2 = i * 2 + 1 + 1 by omega]
        simpa using this
  obtain ⟨h0, h1⟩ := hc l i s hs
  rw [Nat.zero_add]
  exact ⟨h.2 _ _ (by rw [hcs]; simpa using h0), h.2 _ _ (by rw [hcs]; simpa using h1)⟩
/-- A value of values alone, that lie in block b. -/
def vlRow (b : Nat) (vs : List Vl) : Vl := .mk 0 0 none 0 [] none 0 [] (some ⟨b, 0, none⟩) vs.length vs
theorem vlRow_in {W : World} {b : Nat} {vs : List Vl} {cs : Array Value} (h : Bxd W b cs) (hcs : cs = (cellsV vs).toArray) (hl : vs.length ≤ 1000) (hin : ∀ x ∈ vs, x.In W) : (vlRow b vs).In W := by
  refine .mk _ _ _ _ _ _ _ _ _ _ _ (by omega) (by omega) .nil (by simp [maxLen]) (by simp) .nil (by simp [maxLen]) (by simp) (.inr ⟨b, 0, rfl, h.1, fun i u hu => ?_⟩) (by simp [maxLen]; omega) hin
  rw [Nat.zero_add]
  exact h.2 i u (by rw [hcs]; simpa using hu)

end Go.Proofs.YtdbohojncbeajaaGreat.V4

namespace Go.Proofs.YtdbohojncbeajaaGreat.V4
open Go.RowKit Go.Shelf
open C3 (Tk isC belAl drewB cmpC)
open S2 (Sc Tr isT allocB)

theorem tick_ok (p x : Int) (hp : 0 ≤ p ∧ p ≤ 1000) (hx : 1 ≤ x) : isC [⟨p, x⟩] = true := by
  unfold C3.isC C3.bad
  simp [C3.Asc]
  omega

/-- A clock of one tick that lies in block b. -/
def ckOne (b : Nat) (p x : Int) : Ck := ⟨some ⟨b, 0, none⟩, 1, [⟨p, x⟩]⟩
theorem ckOne_in {W : World} {b : Nat} {p x : Int} (h : Bxd W b #[.int .i64 p, .int .u64 x]) (hx : 0 ≤ x ∧ x ≤ 18446744073709551615) : (ckOne b p x).Inp (fun b => b < W.heap.size) W := by
  refine ⟨.inr ⟨b, 0, rfl, h.1, fun i u hu => ?_⟩, by simp [ckOne], by simp [ckOne, maxLen], fun t ht => ?_, by simp [ckOne]⟩
  · rw [Nat.zero_add]
    exact h.2 i u (by simpa [ckOne, C3.cellsT] using hu)
  · simp [ckOne] at ht
    subst ht
    exact hx

/-- A value of clocks and values that lie in blocks c and v. -/
def vlCV (n m : Int) (sA : Option Addr) (ss : List Str) (c : Nat) (cs : List Ck) (v : Nat) (vs : List Vl) : Vl := .mk n m sA ss.length ss (some ⟨c, 0, none⟩) cs.length cs (some ⟨v, 0, none⟩) vs.length vs
theorem vlCV_in {W : World} {c v : Nat} {cs : List Ck} {vs : List Vl} {c1 c2 : Array Value} (hc : Bxd W c c1) (e1 : c1 = (cellsC cs).toArray) (hv : Bxd W v c2) (e2 : c2 = (cellsV vs).toArray) (l1 : cs.length ≤ 1000) (l2 : vs.length ≤ 1000)
    (h1 : ∀ k ∈ cs, k.Inp (fun b => b < W.heap.size) W) (h2 : ∀ x ∈ vs, x.In W) : (vlCV 0 0 none [] c cs v vs).In W := by
  refine .mk _ _ _ _ _ _ _ _ _ _ _ (by omega) (by omega) .nil (by simp [maxLen]) (by simp) (.inr ⟨c, 0, rfl, hc.1, fun i u hu => ?_⟩) (by simp [maxLen]; omega) h1 (.inr ⟨v, 0, rfl, hv.1, fun i u hu => ?_⟩) (by simp [maxLen]; omega) h2
  · rw [Nat.zero_add]
    exact hc.2 i u (by rw [e1]; simpa using hu)
  · rw [Nat.zero_add]
    exact hv.2 i u (by rw [e2]; simpa using hu)
end Go.Proofs.YtdbohojncbeajaaGreat.V4

namespace Go.Proofs.YtdbohojncbeajaaGreat.J5
open Go.RowKit Go.Shelf
open C3 (Tk isC cmpC)
open S2 (Sc Tr isT)
open V4 (Va Vl Ck isV botT ApR tick_ok)

theorem joinF_ok {t : Tr} {x y z : Va} (ht : isT 16 t = true) (vx : isV t x = true) (vy : isV t y = true) (hj : joinE t x y = some z) : joinF t x y = .ok z := by
  unfold joinF stepE
  rw [if_pos ht, if_pos ⟨vx, vy⟩, hj]
theorem joinF_type {t : Tr} {x y : Va} (h : isV t x = false ∨ isV t y = false) : joinF t x y = .error 14 :=
  joinF_no (h.imp (fun h => by rw [h, Bool.and_false]) (fun h => by rw [h, Bool.and_false]))

/-- A number as a value. -/
def numE (n : Int) : Va := .mk n 0 [] [] []
theorem is_num (n : Int) : isV (.mk 1 []) (numE n) = true := (isV_num (.inl rfl)).2 ⟨n, rfl, by simp⟩
theorem isT_1 : isT 16 (.mk 1 []) = true := by decide
theorem isT_3 : isT 16 (.mk 3 []) = true := by decide
theorem isT_6 : isT 16 (.mk 6 []) = true := by decide
theorem isT_81 : isT 16 (.mk 8 [.mk 1 []]) = true := by decide

theorem no_num {s : List Str} : isV (.mk 3 []) (.mk 1 0 s [] []) = false := by
  cases h : isV (.mk 3 []) (.mk 1 0 s [] []) with
  | false => rfl
  | true =>
    obtain ⟨t, e, _⟩ := isV_set.1 h
    cases e
theorem kn_j2 (x : Va) : joinF (.mk 3 []) x (.mk 1 0 [] [] []) = .error 14 := joinF_type (.inr no_num)
theorem noP_leaf {k : Int} (h : k ≠ 5) : NoP (.mk k []) := .mk _ _ h (fun _ h => by cases h)
theorem noP_one {k : Int} {a : Tr} (h : k ≠ 5) (ha : NoP a) : NoP (.mk k [a]) := .mk _ _ h (fun x hx => by rw [List.mem_singleton.1 hx]; exact ha)

end Go.Proofs.YtdbohojncbeajaaGreat.J5

namespace Go.Proofs.YtdbohojncbeajaaGreat.J5
open S2 (Tr isT)
open V4 (Va isV)

section
variable {M V : Type} (c : M → M → Int) (z : V)
theorem allE_left {f : V → V → Option V} {l : List (M × V)} (h : ∀ p ∈ l, f p.2 z = some p.2) : allE f (l.map fun p => (p.1, p.2, z)) = some l := by
  induction l with
  | nil => rfl
  | cons p l ih =>
    rw [List.map_cons, allE, h p (by simp), ih fun p hp => h p (by simp [hp])]
    rfl
end
theorem allE_some {M V W : Type} {f : V → V → Option W} : ∀ {l : List (M × V × V)}, (∀ p ∈ l, ∃ v, f p.2.1 p.2.2 = some v) → ∃ r, allE f l = some r
  | [], _ => ⟨[], rfl⟩
  | p :: l, h => by
    obtain ⟨v, hv⟩ := h p (by simp)
    obtain ⟨r, hr⟩ := allE_some (l := l) fun q hq => h q (by simp [hq])
    exact ⟨(p.1, v) :: r, by rw [allE, hv, hr]; rfl⟩

theorem set_r (s : List Str) (h : s.length ≤ 40) : joinE (.mk 3 []) (.mk 0 0 s [] []) .zero = some (.mk 0 0 s [] []) := by
  rw [joinE, if_pos rfl]
  unfold setE
  exact if_neg (show ¬ 40 < s.length by omega)
end Go.Proofs.YtdbohojncbeajaaGreat.J5

namespace Go.Proofs.YtdbohojncbeajaaGreat.J5
open C3 (Tk cmpC mergeC mergeC_nil_left mergeC_nil_right)
open S2 (Tr isT)
open V4 (Va isV botT ApR)

section
variable {M V : Type} {c : M → M → Int} {z : V}
theorem mix_r_nil (a : List (M × V)) : mix c z a [] = a.map fun p => (p.1, p.2, z) := by
  cases a with
  | nil => rw [mix]; rfl
  | cons x a => rw [mix]
theorem mix_l_nil (b : List (M × V)) : mix c z [] b = b.map fun p => (p.1, z, p.2) := by rw [mix]
theorem allE_right {f : V → V → Option V} {l : List (M × V)} (h : ∀ p ∈ l, f z p.2 = some p.2) : allE f (l.map fun p => (p.1, z, p.2)) = some l := by
  induction l with
  | nil => rfl
  | cons p l ih =>
    rw [List.map_cons, allE, h p (by simp), ih fun p hp => h p (by simp [hp])]
    rfl
end

/-- With nothing it is the same. -/
theorem joinE_zero : ∀ (n : Nat) (t : Tr), n ≤ 16 → isT n t = true → ∀ x, isV t x = true → Nn x → joinE t x .zero = some x ∧ joinE t .zero x = some x := by
  intro n
  induction n with
  | zero => intro t _ h; simp [isT] at h
  | succ m ih =>
    intro t hn h x hx nx
    obtain ⟨m', hm, h1 | h1 | h1⟩ := isT_cases h
    · obtain ⟨k, hk, rfl⟩ := h1
      rcases hk with rfl | rfl | rfl | rfl | rfl
      · obtain ⟨p, rfl, _⟩ := (isV_num (.inl rfl)).1 hx
        have := nx.out.1
        have e1 : joinE (.mk 1 []) (.mk p 0 [] [] []) .zero = some (.mk (max p 0) 0 [] [] []) := by rw [joinE, if_neg (by decide), if_neg (by decide), if_neg (by decide)]; rfl
        have e2 : joinE (.mk 1 []) .zero (.mk p 0 [] [] []) = some (.mk (max 0 p) 0 [] [] []) := by rw [joinE, if_neg (by decide), if_neg (by decide), if_neg (by decide)]; rfl
        simp only [Va.n] at this
        rw [e1, e2, Int.max_eq_left this, Int.max_eq_right this]
        exact ⟨rfl, rfl⟩
      · obtain ⟨p, rfl, _⟩ := (isV_num (.inr rfl)).1 hx
        have := nx.out.1
        have e1 : joinE (.mk 2 []) (.mk p 0 [] [] []) .zero = some (.mk (max p 0) 0 [] [] []) := by rw [joinE, if_neg (by decide), if_neg (by decide), if_neg (by decide)]; rfl
        have e2 : joinE (.mk 2 []) .zero (.mk p 0 [] [] []) = some (.mk (max 0 p) 0 [] [] []) := by rw [joinE, if_neg (by decide), if_neg (by decide), if_neg (by decide)]; rfl
        simp only [Va.n] at this
        rw [e1, e2, Int.max_eq_left this, Int.max_eq_right this]
        exact ⟨rfl, rfl⟩
      · obtain ⟨s, rfl, h2, h3, _⟩ := isV_set.1 hx
        refine ⟨set_r s h3, ?_⟩
        have e : R1.bothL [] s = s := R1.srt_ext (R1.srt_bothL .nil) h2 fun y => by rw [R1.mem_bothL]; simp
        rw [joinE, if_pos rfl]
        show (if 40 < (R1.bothL [] s).length then none else some (Va.mk 0 0 (R1.bothL [] s) [] [])) = _
        rw [e, if_neg (by omega)]
      · have hl : ∀ y, isV (.mk 6 []) y = true → Va.mk y.n y.m y.s [] [] = y := fun y hy => by
          rcases isV_last.1 hy with rfl | ⟨_, _, _, rfl, _⟩ <;> rfl
        have hz : isV (.mk 6 []) .zero = true := isV_last.2 (.inl rfl)
        have L1 := lub_last hx hz nx .zero (z := lastE x .zero) (by rw [joinE, if_neg (by decide), if_pos rfl])
        have L2 := lub_last hz hx .zero nx (z := lastE .zero x) (by rw [joinE, if_neg (by decide), if_pos rfl])
        have lz : leV (.mk 6 []) .zero x := leV_zero _ _ h x nx
        have lr : leV (.mk 6 []) x x := leV_refl _ _ h x hx nx
        have e1 : lastE x .zero = x := leV_antisymm _ _ h _ _ L1.is hx L1.nn nx (L1.least x hx nx lr lz) L1.left
        have e2 : lastE .zero x = x := leV_antisymm _ _ h _ _ L2.is hx L2.nn nx (L2.least x hx nx lz lr) L2.right
        rw [joinE, if_neg (by decide), if_pos rfl, joinE, if_neg (by decide), if_pos rfl, e1, e2]
        exact ⟨rfl, rfl⟩
      · rw [joinE, if_neg (by decide), if_neg (by decide), if_pos rfl, joinE, if_neg (by decide), if_neg (by decide), if_pos rfl]
        rcases isV_clock.1 hx with rfl | ⟨cl, rfl, h2, h3⟩
        · exact ⟨rfl, rfl⟩
        · have h4 := (C3.isC_out h2).1
          unfold clockE
          have e1 : (Va.mk 0 0 [] [cl] []).c ++ Va.zero.c = [cl] := rfl
          have e2 : Va.zero.c ++ (Va.mk 0 0 [] [cl] []).c = [cl] := rfl
          have ef : [cl].foldl mergeC [] = cl := mergeC_nil_left cl
          rw [e1, e2, ef, if_neg h3, if_neg (by omega)]
          exact ⟨rfl, rfl⟩
    · obtain ⟨k, a, hk, rfl, ha⟩ := h1
      obtain rfl : m' = m := by omega
      have hin : ∀ y ∈ x.v, isV a y = true → joinE a y .zero = some y ∧ joinE a .zero y = some y := fun y hy hv => ih a (by omega) ha y hv (nx.out.2.2.2 y hy)
      rcases hk with rfl | rfl
      · obtain ⟨s, v, rfl, h2, h3, h4, _, h5⟩ := isV_map.1 hx
        have hz : (s.zip v).length ≤ 40 := by rw [List.length_zip]; omega
        have hp : ∀ p ∈ s.zip v, joinE a p.2 .zero = some p.2 ∧ joinE a .zero p.2 = some p.2 := fun p hp => hin _ (List.of_mem_zip hp).2 (h5 _ (List.of_mem_zip hp).2).1
        rw [joinE, if_pos rfl, joinE, if_pos rfl]
        unfold mapE
        show (togE _ (mix cmpS .zero (s.zip v) [])).map _ = _ ∧ (togE _ (mix cmpS .zero [] (s.zip v))).map _ = _
        rw [mix_r_nil, mix_l_nil]
        unfold togE
        rw [List.length_map, List.length_map, if_neg (by omega), if_neg (by omega), allE_left .zero fun p h => (hp p h).1, allE_right fun p h => (hp p h).2]
        have e1 : (s.zip v).map (·.1) = s := List.map_fst_zip (by omega)
        have e2 : (s.zip v).map (·.2) = v := List.map_snd_zip (by omega)
        simp only [Option.map_some, e1, e2]
        exact ⟨trivial, trivial⟩
      · obtain ⟨cs, v, rfl, h2, h3, h4, h5, h6⟩ := isV_cause.1 hx
        have hz : (cs.zip v).length ≤ 40 := by rw [List.length_zip]; omega
        have hp : ∀ p ∈ cs.zip v, joinE a p.2 .zero = some p.2 ∧ joinE a .zero p.2 = some p.2 := fun p hp => hin _ (List.of_mem_zip hp).2 (h6 _ (List.of_mem_zip hp).2)
        have hs : ∀ p ∈ cs.zip v, seenE p.1 cs = false := fun p hp => by
          unfold seenE
          exact List.any_eq_false.2 fun o ho e => apr_not h4 (List.of_mem_zip hp).1 ho (of_decide_eq_true e)
        rw [joinE, if_neg (by decide), joinE, if_neg (by decide)]
        unfold causeE
        show (togE _ ((mix cmpT .zero (cs.zip v) []).filter fun p => !seenE p.1 (cs ++ []))).map _ = _ ∧ (togE _ ((mix cmpT .zero [] (cs.zip v)).filter fun p => !seenE p.1 ([] ++ cs))).map _ = _
        rw [mix_r_nil, mix_l_nil, List.append_nil, List.nil_append]
        rw [List.filter_eq_self.2 (fun p hp => by
          obtain ⟨q, hq, rfl⟩ := List.mem_map.1 hp
          show (!seenE q.1 cs) = true
          rw [hs q hq]
          rfl), List.filter_eq_self.2 (fun p hp => by
          obtain ⟨q, hq, rfl⟩ := List.mem_map.1 hp
          show (!seenE q.1 cs) = true
          rw [hs q hq]
          rfl)]
        unfold togE
        rw [List.length_map, List.length_map, if_neg (by omega), if_neg (by omega), allE_left .zero fun p h => (hp p h).1, allE_right fun p h => (hp p h).2]
        have e1 : (cs.zip v).map (·.1) = cs := List.map_fst_zip (by omega)
        have e2 : (cs.zip v).map (·.2) = v := List.map_snd_zip (by omega)
        simp only [Option.map_some, e1, e2]
        exact ⟨trivial, trivial⟩
    · obtain ⟨a, b, rfl, ha, hb⟩ := h1
      obtain rfl : m' = m := by omega
      obtain ⟨u, v, rfl, h2, h3⟩ := isV_pair.1 hx
      have n1 := nx.out.2.2.2 u (show u ∈ [u, v] by simp)
      have n2 := nx.out.2.2.2 v (show v ∈ [u, v] by simp)
      obtain ⟨a1, a2⟩ := ih a (by omega) ha u h2 n1
      obtain ⟨b1, b2⟩ := ih b (by omega) hb v h3 n2
      rw [joinE, joinE]
      show ((joinE a u .zero).bind fun p => (joinE b v .zero).map _) = _ ∧ ((joinE a .zero u).bind fun p => (joinE b .zero v).map _) = _
      rw [a1, a2, b1, b2]
      exact ⟨rfl, rfl⟩
end Go.Proofs.YtdbohojncbeajaaGreat.J5

namespace Go.Proofs.YtdbohojncbeajaaGreat.J5
open C3 (Tk isC isC_out Asc ofC ofC_mem underC cmpC mergeC)
open S2 (Tr isT)
open V4 (Va isV botT ApR isT_le)

/-- What has its marks among another line's is no longer than that. -/
theorem up_len {M V W : Type} {c : M → M → Int} (hc : Cmp c) : ∀ {b : List (M × W)} {a : List (M × V)}, Up c a → Up c b → (∀ p ∈ a, ∃ q ∈ b, q.1 = p.1) → a.length ≤ b.length
  | _, [], _, _, _ => Nat.zero_le _
  | [], p :: a, _, _, h => by obtain ⟨q, hq, _⟩ := h p (by simp); cases hq
  | q :: b, p :: a, ha, hb, h => by
    obtain ⟨a1, a2⟩ := List.pairwise_cons.1 ha
    obtain ⟨b1, b2⟩ := List.pairwise_cons.1 hb
    have := up_len hc a2 b2 fun r hr => by
      obtain ⟨t, ht, e⟩ := h r (by simp [hr])
      rcases List.mem_cons.1 ht with rfl | ht
      · obtain ⟨u, hu, e2⟩ := h p (by simp)
        have h1 := a1 r hr
        rcases List.mem_cons.1 hu with rfl | hu
        · rw [← e, e2, hc.refl] at h1; omega
        · have h2 := b1 u hu
          rw [e, e2] at h2
          have := hc.trans h1 h2
          rw [hc.refl] at this; omega
      · exact ⟨t, ht, e⟩
    simp only [List.length_cons]; omega
theorem srt_len {s s' : List Str} (h : R1.Srt s) (h' : R1.Srt s') (hm : ∀ x ∈ s, x ∈ s') : s.length ≤ s'.length := by
  have := up_len cmpS_ok (srt_up (v := s) h rfl) (srt_up (v := s') h' rfl) fun p hp => by
    have hp1 := hm _ (List.of_mem_zip hp).1
    obtain ⟨i, hi, e⟩ := List.getElem_of_mem hp1
    exact ⟨(s'[i], s'[i]), List.mem_of_getElem? (List.getElem?_zip_eq_some.2 ⟨List.getElem?_eq_getElem hi, List.getElem?_eq_getElem hi⟩), e⟩
  simpa using this
theorem asc_len {a b : List Tk} (ha : Asc a) (hb : Asc b) (hm : ∀ x ∈ a, ∃ y ∈ b, y.k = x.k) : a.length ≤ b.length := by
  have up : ∀ {l : List Tk}, Asc l → Up C3.cmpI (l.map fun t => (t.k, ())) := fun {l} h => by
    rw [Up, List.pairwise_map]
    exact List.Pairwise.imp (R := fun x y : Tk => x.k < y.k) (fun h => by rw [C3.cmpI_lt h]; decide) h
  have := up_len cmpI_ok (up ha) (up hb) fun p hp => by
    obtain ⟨x, hx, rfl⟩ := List.mem_map.1 hp
    obtain ⟨y, hy, e⟩ := hm x hx
    exact ⟨_, List.mem_map.2 ⟨y, hy, rfl⟩, e⟩
  simpa using this

/-- Of two of which one is not more than the other: together they are told. -/
theorem joinE_near : ∀ (n : Nat) (t : Tr), n ≤ 16 → isT n t = true → ∀ x y, isV t x = true → isV t y = true → Nn x → Nn y → (leV t x y ∨ leV t y x) → ∃ z, joinE t x y = some z := by
  intro n
  induction n with
  | zero => intro t _ h; simp [isT] at h
  | succ n ih =>
    intro t hn ht x y vx vy hx hy h
    obtain ⟨m, hm, hc⟩ := isT_cases ht
    obtain rfl : n = m := by omega
    rcases hc with ⟨k, hk, rfl⟩ | ⟨k, a, hk, rfl, ha⟩ | ⟨a, b, rfl, ha, hb⟩
    · rcases hk with rfl | rfl | rfl | rfl | rfl
      · exact ⟨_, by rw [joinE, if_neg (by decide), if_neg (by decide), if_neg (by decide)]⟩
      · exact ⟨_, by rw [joinE, if_neg (by decide), if_neg (by decide), if_neg (by decide)]⟩
      · obtain ⟨s, rfl, s1, s2, _⟩ := isV_set.1 vx
        obtain ⟨s', rfl, r1, r2, _⟩ := isV_set.1 vy
        rw [leV_set, leV_set] at h
        have e : ¬ 40 < (R1.bothL s s').length := by
          have hs := R1.srt_bothL (b := s') s1
          rcases h with h | h
          · have := srt_len hs r1 fun z hz => (R1.mem_bothL.1 hz).elim (h z) id
            omega
          · have := srt_len hs s1 fun z hz => (R1.mem_bothL.1 hz).elim id (h z)
            omega
        exact ⟨_, by rw [joinE, if_pos rfl]; unfold setE; exact if_neg e⟩
      · exact ⟨_, by rw [joinE, if_neg (by decide), if_pos rfl]⟩
      · rw [leV_clock, leV_clock] at h
        rw [joinE, if_neg (by decide), if_neg (by decide), if_pos rfl]
        unfold clockE
        rw [clock_fold vx vy]
        obtain ⟨a1, a2, a3⟩ := isC_out (ck_ok vx).1
        obtain ⟨b1, b2, b3⟩ := isC_out (ck_ok vy).1
        have hasc := merge_asc _ _ a2 b2
        have mem : ∀ {u v : List Tk}, Asc u → (∀ q ∈ u, q.n ≠ 0) → NnC u → NnC v → underC u v = true → ∀ q ∈ u, ∃ y ∈ v, y.k = q.k := fun {u v} hu hu0 nu nv hl q hq => by
          have h1 := under_of hl nv q.k
          rw [ofC_mem hu hq] at h1
          rcases ofC_get v q.k with ⟨y, hy, e, _⟩ | ⟨_, e⟩
          · exact ⟨y, hy, e⟩
          · rw [e] at h1
            exact absurd (Int.le_antisymm h1 (nu q hq)) (hu0 q hq)
        have e : ¬ 40 < (mergeC (ckE x) (ckE y)).length := by
          rcases h with h | h
          · have := asc_len hasc b2 fun q hq => (mem_merge _ _ hq).elim (mem a2 (fun q hq => (a3 q hq).2.2) hx.ck hy.ck h q) fun hq => ⟨q, hq, rfl⟩
            omega
          · have := asc_len hasc a2 fun q hq => (mem_merge _ _ hq).elim (fun hq => ⟨q, hq, rfl⟩) (mem b2 (fun q hq => (b3 q hq).2.2) hy.ck hx.ck h q)
            omega
        rw [if_neg e]
        split
        · exact ⟨_, rfl⟩
        · exact ⟨_, rfl⟩
    · have nx := hx.out
      have ny := hy.out
      rcases hk with rfl | rfl
      · obtain ⟨s, v, rfl, a1, a2, a3, a4, a5⟩ := isV_map.1 vx
        obtain ⟨s', v', rfl, b1, b2, b3, b4, b5⟩ := isV_map.1 vy
        rw [leV_map, leV_map] at h
        simp only [mapLe, Va.s, Va.v] at h nx ny
        have ux := srt_up a1 a2
        have uy := srt_up b1 b2
        have hmem := mem_mix (z := Va.zero) cmpS_ok _ _ ux uy
        have hup := mix_up (z := Va.zero) cmpS_ok _ _ ux uy
        have hl : ¬ 40 < (mix cmpS Va.zero (s.zip v) (s'.zip v')).length := by
          have key : ∀ p ∈ mix cmpS Va.zero (s.zip v) (s'.zip v'), (∃ q ∈ s.zip v, q.1 = p.1) ∨ ∃ q ∈ s'.zip v', q.1 = p.1 := fun p hp => by
            rcases (hmem p).1 hp with ⟨h1, _⟩ | ⟨h1, _⟩ | ⟨_, _, h2⟩
            · exact .inl ⟨_, h1, rfl⟩
            · exact .inl ⟨_, h1, rfl⟩
            · exact .inr ⟨_, h2, rfl⟩
          rcases h with h | h
          · have := up_len cmpS_ok hup uy fun p hp => (key p hp).elim (fun ⟨q, hq, e⟩ => by obtain ⟨r, hr, e2, _⟩ := h q hq; exact ⟨r, hr, e2.trans e⟩) id
            rw [List.length_zip] at this; omega
          · have := up_len cmpS_ok hup ux fun p hp => (key p hp).elim id (fun ⟨q, hq, e⟩ => by obtain ⟨r, hr, e2, _⟩ := h q hq; exact ⟨r, hr, e2.trans e⟩)
            rw [List.length_zip] at this; omega
        have hall : ∀ p ∈ mix cmpS Va.zero (s.zip v) (s'.zip v'), ∃ w, joinE a p.2.1 p.2.2 = some w := fun p hp => by
          rcases (hmem p).1 hp with ⟨h1, h2⟩ | ⟨h1, _, h2⟩ | ⟨_, h1, h2⟩
          · have o1 := List.of_mem_zip h1
            have o2 := List.of_mem_zip h2
            refine ih a (by omega) ha _ _ (a5 _ o1.2).1 (b5 _ o2.2).1 (nx.2.2.2 _ o1.2) (ny.2.2.2 _ o2.2) ?_
            rcases h with h | h
            · obtain ⟨q, hq, e, hl⟩ := h _ h1
              obtain rfl := up_one cmpS_ok uy hq h2 e
              exact .inl hl
            · obtain ⟨q, hq, e, hl⟩ := h _ h2
              obtain rfl := up_one cmpS_ok ux hq h1 e
              exact .inr hl
          · have o1 := List.of_mem_zip h1
            rw [h2]
            exact ⟨_, (joinE_zero n a (by omega) ha _ (a5 _ o1.2).1 (nx.2.2.2 _ o1.2)).1⟩
          · have o2 := List.of_mem_zip h2
            rw [h1]
            exact ⟨_, (joinE_zero n a (by omega) ha _ (b5 _ o2.2).1 (ny.2.2.2 _ o2.2)).2⟩
        obtain ⟨r, hr⟩ := allE_some hall
        refine ⟨.mk 0 0 (r.map (·.1)) [] (r.map (·.2)), ?_⟩
        rw [joinE, if_pos rfl]
        have htg : togE (joinE a) (mix cmpS Va.zero (s.zip v) (s'.zip v')) = some r := (if_neg hl).trans hr
        unfold mapE
        simp only [Va.s, Va.v]
        rw [htg]; rfl
      · obtain ⟨s, v, rfl, a2, a3, a1, a4, a5⟩ := isV_cause.1 vx
        obtain ⟨s', v', rfl, b2, b3, b1, b4, b5⟩ := isV_cause.1 vy
        rw [leV_cause, leV_cause] at h
        simp only [causeLe, Va.c, Va.v] at h nx ny
        have ux := apr_up a1 a2
        have uy := apr_up b1 b2
        have hmem := mem_mix (z := Va.zero) cmpT_ok _ _ ux uy
        have hup : Up cmpT ((mix cmpT .zero (s.zip v) (s'.zip v')).filter fun p => !seenE p.1 (s ++ s')) := (mix_up (z := Va.zero) cmpT_ok _ _ ux uy).filter _
        have unseen : ∀ {k : List Tk}, (!seenE k (s ++ s')) = true → ∀ o ∈ s ++ s', cmpC k o ≠ -1 := fun {k} h o ho e => by
          unfold seenE at h
          simp only [Bool.not_eq_true', List.any_eq_false, decide_eq_true_eq] at h
          exact h o ho e
        have key : ∀ p ∈ (mix cmpT .zero (s.zip v) (s'.zip v')).filter (fun p => !seenE p.1 (s ++ s')), ((∀ p ∈ s.zip v, (∃ q ∈ s'.zip v', cmpC p.1 q.1 = -1) ∨ ∃ q ∈ s'.zip v', q.1 = p.1 ∧ leV a p.2 q.2) → ∃ q ∈ s'.zip v', q.1 = p.1) ∧ ((∀ p ∈ s'.zip v', (∃ q ∈ s.zip v, cmpC p.1 q.1 = -1) ∨ ∃ q ∈ s.zip v, q.1 = p.1 ∧ leV a p.2 q.2) → ∃ q ∈ s.zip v, q.1 = p.1) := fun p hp => by
          obtain ⟨h1, h2⟩ := List.mem_filter.1 hp
          have h3 := unseen h2
          have one : (p.1, p.2.1) ∈ s.zip v → (∀ p ∈ s.zip v, (∃ q ∈ s'.zip v', cmpC p.1 q.1 = -1) ∨ ∃ q ∈ s'.zip v', q.1 = p.1 ∧ leV a p.2 q.2) → ∃ q ∈ s'.zip v', q.1 = p.1 := fun hi h => by
            rcases h _ hi with ⟨q, hq, e⟩ | ⟨q, hq, e, _⟩
            · exact absurd e (h3 _ (List.mem_append.2 (.inr (List.of_mem_zip hq).1)))
            · exact ⟨q, hq, e⟩
          have two : (p.1, p.2.2) ∈ s'.zip v' → (∀ p ∈ s'.zip v', (∃ q ∈ s.zip v, cmpC p.1 q.1 = -1) ∨ ∃ q ∈ s.zip v, q.1 = p.1 ∧ leV a p.2 q.2) → ∃ q ∈ s.zip v, q.1 = p.1 := fun hi h => by
            rcases h _ hi with ⟨q, hq, e⟩ | ⟨q, hq, e, _⟩
            · exact absurd e (h3 _ (List.mem_append.2 (.inl (List.of_mem_zip hq).1)))
            · exact ⟨q, hq, e⟩
          rcases (hmem p).1 h1 with ⟨i1, i2⟩ | ⟨i1, _⟩ | ⟨_, _, i2⟩
          · exact ⟨one i1, two i2⟩
          · exact ⟨one i1, fun _ => ⟨_, i1, rfl⟩⟩
          · exact ⟨fun _ => ⟨_, i2, rfl⟩, two i2⟩
        have hl : ¬ 40 < ((mix cmpT .zero (s.zip v) (s'.zip v')).filter fun p => !seenE p.1 (s ++ s')).length := by
          rcases h with h | h
          · have := up_len cmpT_ok hup uy fun p hp => (key p hp).1 h
            rw [List.length_zip] at this; omega
          · have := up_len cmpT_ok hup ux fun p hp => (key p hp).2 h
            rw [List.length_zip] at this; omega
        have hall : ∀ p ∈ (mix cmpT .zero (s.zip v) (s'.zip v')).filter (fun p => !seenE p.1 (s ++ s')), ∃ w, joinE a p.2.1 p.2.2 = some w := fun p hp => by
          obtain ⟨hp1, hp2⟩ := List.mem_filter.1 hp
          have h3 := unseen hp2
          rcases (hmem p).1 hp1 with ⟨h1, h2⟩ | ⟨h1, _, h2⟩ | ⟨_, h1, h2⟩
          · have o1 := List.of_mem_zip h1
            have o2 := List.of_mem_zip h2
            refine ih a (by omega) ha _ _ (a5 _ o1.2) (b5 _ o2.2) (nx.2.2.2 _ o1.2) (ny.2.2.2 _ o2.2) ?_
            rcases h with h | h
            · rcases h _ h1 with ⟨q, hq, e⟩ | ⟨q, hq, e, hl⟩
              · exact absurd e (h3 _ (List.mem_append.2 (.inr (List.of_mem_zip hq).1)))
              · obtain rfl := up_one cmpT_ok uy hq h2 e
                exact .inl hl
            · rcases h _ h2 with ⟨q, hq, e⟩ | ⟨q, hq, e, hl⟩
              · exact absurd e (h3 _ (List.mem_append.2 (.inl (List.of_mem_zip hq).1)))
              · obtain rfl := up_one cmpT_ok ux hq h1 e
                exact .inr hl
          · have o1 := List.of_mem_zip h1
            rw [h2]
            exact ⟨_, (joinE_zero n a (by omega) ha _ (a5 _ o1.2) (nx.2.2.2 _ o1.2)).1⟩
          · have o2 := List.of_mem_zip h2
            rw [h1]
            exact ⟨_, (joinE_zero n a (by omega) ha _ (b5 _ o2.2) (ny.2.2.2 _ o2.2)).2⟩
        obtain ⟨r, hr⟩ := allE_some hall
        refine ⟨.mk 0 0 [] (r.map (·.1)) (r.map (·.2)), ?_⟩
        rw [joinE, if_neg (by decide)]
        have htg : togE (joinE a) ((mix cmpT .zero (s.zip v) (s'.zip v')).filter fun p => !seenE p.1 (s ++ s')) = some r := (if_neg hl).trans hr
        unfold causeE
        simp only [Va.c, Va.v]
        rw [htg]; rfl
    · obtain ⟨u, v, rfl, s1, s2⟩ := isV_pair.1 vx
      obtain ⟨u', v', rfl, r1, r2⟩ := isV_pair.1 vy
      rw [leV_pair, leV_pair] at h
      obtain ⟨z, hz⟩ := ih a (by omega) ha u u' s1 r1 (hx.half 0) (hy.half 0) (h.imp (·.1) (·.1))
      obtain ⟨z', hz'⟩ := ih b (by omega) hb v v' s2 r2 (hx.half 1) (hy.half 1) (h.imp (·.2) (·.2))
      refine ⟨.mk 0 0 [] [] [z, z'], ?_⟩
      rw [joinE]
      unfold pairE
      show (joinE a u u').bind _ = _
      rw [hz]
      show ((joinE b v v').map _) = _
      rw [hz']; rfl

section
variable {t : Tr} {x y : Va} (ht : isT 16 t = true) (vx : isV t x = true) (vy : isV t y = true) (hx : Nn x) (hy : Nn y)
include ht vx vy hx hy
/-- Together the other one: just if it is less, or the same. -/
theorem join_right : joinE t x y = some y ↔ leV t x y := by
  refine ⟨fun h => (lub_of 16 t (Nat.le_refl _) ht x y y (.inl vx) (.inl vy) (.inl vx) hx hy h).left, fun h => ?_⟩
  obtain ⟨z, hz⟩ := joinE_near 16 t (Nat.le_refl _) ht x y vx vy hx hy (.inl h)
  have L := lub_of 16 t (Nat.le_refl _) ht x y z (.inl vx) (.inl vy) (.inl vx) hx hy hz
  rw [hz, leV_antisymm 16 t ht z y L.is vy L.nn hy (L.least y vy hy h (leV_refl 16 t ht y vy hy)) L.right]
theorem join_left : joinE t x y = some x ↔ leV t y x := by
  refine ⟨fun h => (lub_of 16 t (Nat.le_refl _) ht x y x (.inl vx) (.inl vy) (.inl vx) hx hy h).right, fun h => ?_⟩
  obtain ⟨z, hz⟩ := joinE_near 16 t (Nat.le_refl _) ht x y vx vy hx hy (.inr h)
  have L := lub_of 16 t (Nat.le_refl _) ht x y z (.inl vx) (.inl vy) (.inl vx) hx hy hz
  rw [hz, leV_antisymm 16 t ht z x L.is vx L.nn hx (L.least x vx hx (leV_refl 16 t ht x vx hx) h) L.left]
end
end Go.Proofs.YtdbohojncbeajaaGreat.J5

namespace Go.Proofs.YtdbohojncbeajaaGreat.J5
open Go.RowKit Go.Shelf Go.Extern.Stop Go.Stop Go.Extern

theorem Tryz.eqTypeOf (v : Value) (w : World) : (Extern.ReflectliteType.typeOf #[.iface 51 v]).run Tryz.prog w = .ok (.iface 77 (.agg #[.pointer (some ⟨1, 51, none⟩)])) w := by kernel_rfl
/-- Whether its values can be compared. -/
def cmpX : Array Value → Sem Value := Extern.ReflectliteType.method fun t => do Go.Extern.Rtype.noPackHeld "Comparable" t; pure (.bool (← typeInfo t).comparable)
theorem Tryz.eqComparable (w : World) : (cmpX #[.agg #[.pointer (some ⟨1, 51, none⟩)]]).run Tryz.prog w = .ok (.bool true) w := by kernel_rfl
theorem Tryz.eqMethod (v : Value) (w : World) : (Go.method 325 77 v "Comparable").run Tryz.prog w = .ok (156, v) w := by kernel_rfl
theorem Tryz.eqComp : (Tryz.prog.info? 51).map (·.comparable) = some true := by kernel_rfl
theorem Tryz.noIsN (v : Value) (xT : TypeId) (w : World) : (Instr.typeAssert (.iface 51 v) xT 79 true).run Tryz.prog w = .ok (.tuple #[.nilIface, .bool false]) w := run_typeAssert_lacksB Tryz.underlying79 (by kernel_rfl) (by kernel_rfl) v xT w
theorem Tryz.noUnwrapN (v : Value) (xT : TypeId) (w : World) : (Instr.typeAssert (.iface 51 v) xT 82 true).run Tryz.prog w = .ok (.tuple #[.nilIface, .bool false]) w := run_typeAssert_lacksB Tryz.underlying82 (by kernel_rfl) (by kernel_rfl) v xT w
theorem Tryz.noUnwrapsN (v : Value) (xT : TypeId) (w : World) : (Instr.typeAssert (.iface 51 v) xT 84 true).run Tryz.prog w = .ok (.tuple #[.nilIface, .bool false]) w := run_typeAssert_lacksB Tryz.underlying84 (by kernel_rfl) (by kernel_rfl) v xT w

theorem run_eql_errno (n m : Int) (w : World) : (binOp .eql 32 (errV n) (errV m)).run Tryz.prog w = .ok (.bool (decide (n = m))) w := by
  obtain ⟨i, hi, hcmp⟩ := Option.map_eq_some_iff.1 Tryz.eqComp
  have hu := Tryz.underlying32
  have he := Tryz.underlying51
  unfold errV
  have h : ∀ d : Nat, (Op.equalIn (d + 2) 32 (.iface 51 (.int .i64 n)) (.iface 51 (.int .i64 m))).run Tryz.prog w = .ok (decide (n = m)) w := fun d => by
    simp [Op.equalIn, run_underlying hu, run_underlying he, typeInfo, hi, hcmp]
    rfl
  simp only [binOp]
  simp [Op.equal, Op.maxDepth, h 9998]

set_option maxRecDepth 100000 in
set_option maxHeartbeats 1000000 in
theorem is_any (n m : Int) (w : World) : Calls Tryz.prog 16 #[errV n, errV m] w (RetV w (.bool (decide (n = m)))) := by
  have h25 := @run_callFunc_extern Tryz.prog 21 _ Extern.ReflectliteType.typeOf Tryz.func21 (by kernel_rfl) (by kernel_rfl) (by kernel_rfl) (by kernel_rfl)
  have h63 := @run_callFunc_extern Tryz.prog 156 _ cmpX Tryz.func156 (by kernel_rfl) (by kernel_rfl) (by kernel_rfl) (by kernel_rfl)
  have tT := Tryz.eqTypeOf
  have cT := Tryz.eqComparable
  have mR := Tryz.eqMethod
  have nE := Tryz.noIsN
  have uE := Tryz.noUnwrapN
  have vE := Tryz.noUnwrapsN
  have heq := run_eql_errno n m w
  obtain ⟨q, hq⟩ : ∃ q, decide (n = m) = q := ⟨_, rfl⟩
  rw [hq] at heq
  rw [hq]
  clear hq
  unfold errV at heq ⊢
  cases q with
  | true =>
    go_enter Tryz.func16, Tryz.ntmps16
    go_wp2
    refine wp_loop_rounds 1 ?_
    rw [rounds_succ]
    go_wp2
    go_ret
    exact ⟨rfl, Below.refl _ _⟩
  | false =>
    go_enter Tryz.func16, Tryz.ntmps16
    go_wp2
    refine wp_loop_rounds 1 ?_
    rw [rounds_succ]
    go_wp2
    go_ret
    exact ⟨rfl, Below.refl _ _⟩
set_option maxHeartbeats 400000 in
theorem is_nil (m : Int) (w : World) : Calls Tryz.prog 16 #[.nilIface, errV m] w (RetV w (.bool false)) := by
  have hn := run_eql_iface_nil_left (P := Tryz.prog) w 51 (.int .i64 m) Tryz.underlying32
  unfold errV
  go_enter Tryz.func16, Tryz.ntmps16
  go_wp2
  go_ret
  exact ⟨rfl, Below.refl _ _⟩
end Go.Proofs.YtdbohojncbeajaaGreat.J5
