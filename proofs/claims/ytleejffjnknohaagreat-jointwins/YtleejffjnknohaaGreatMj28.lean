/- Values joined: the least that is not less than either. Plain mathematics. No condition but that the schema is one, and that the values are of it. Rows of values joined: the same in whatever order, however often. Plain mathematics. No condition but that no number is below 0. What lowest does, of two rows of which one at least isn't empty. No condition but that the slices read as strings. What beside gives: two rows gone through together. No condition but that the slices read as strings. -/
import Derived.Test.YtleejffjnknohaaGreatMj27
import Derived.Test.YtleejffjnknohaaGreatMj08
import Derived.RangeFuncNested
import Derived.RangeFuncBound
import Derived.RangeFuncCalls
import Derived.RangeFuncLeaves
import Derived.Shelf.Abstract
import Derived.Shelf.RegionOpen
import Derived.OwnWalkIn
import Derived.TacticsInMore
import Derived.LoopNIn
import Derived.LoopIn
import Derived.Sort.QuietIn
namespace Go.Proofs.YtleejffjnknohaaGreat.J5
open C3 (Tk isC isC_out isC_mk Asc ofC underC cmpC mergeC mergeC_nil_left mergeC_nil_right)
open S2 (Tr isT)
open V4 (Va isV botT ApR isT_le shortV)

/-- z is the least that is not less than x, y. -/
structure Lub (t : Tr) (x y z : Va) : Prop where
  is : isV t z = true
  nn : Nn z
  left : leV t x z
  right : leV t y z
  least : ∀ u, isV t u = true → Nn u → leV t x u → leV t y u → leV t z u

/-- Of the schema, or nothing at all. -/
def OkV (t : Tr) (x : Va) : Prop := isV t x = true ∨ x = .zero

theorem zip_parts {M V : Type} : ∀ r : List (M × V), (r.map (·.1)).zip (r.map (·.2)) = r
  | [] => rfl
  | p :: r => by rw [List.map_cons, List.map_cons, List.zip_cons_cons, zip_parts r]

theorem allE_has {M V W : Type} {f : V → V → Option W} : ∀ {l : List (M × V × V)} {r : List (M × W)}, allE f l = some r → ∀ q ∈ l, ∃ w, f q.2.1 q.2.2 = some w
  | [], _, _, q, hq => by cases hq
  | p :: l, r, h, q, hq => by
    rw [allE] at h
    cases hf : f p.2.1 p.2.2 with
    | none => rw [hf] at h; simp at h
    | some v =>
      rw [hf] at h
      cases ha : allE f l with
      | none => rw [ha] at h; simp at h
      | some x =>
        rcases List.mem_cons.1 hq with rfl | hq
        · exact ⟨v, hf⟩
        · exact allE_has ha q hq

/-- There is one that none has seen. -/
theorem top_of {α : Type} {R : α → α → Prop} {P : α → Prop} (ht : ∀ x y z, P x → P y → P z → R x y → R y z → R x z) (hi : ∀ x, ¬ R x x) : ∀ (l : List α) (o : α), P o → (∀ k ∈ l, P k) → ∃ m, (m = o ∨ (m ∈ l ∧ R o m)) ∧ ∀ k ∈ l, ¬ R m k
  | [], o, _, _ => ⟨o, .inl rfl, fun _ h => by cases h⟩
  | k :: l, o, ho, hl => by
    have hk := hl k (by simp)
    have hl' : ∀ j ∈ l, P j := fun j hj => hl j (by simp [hj])
    by_cases h : R o k
    · obtain ⟨m, h1, h2⟩ := top_of ht hi l k hk hl'
      have hm : P m := by rcases h1 with rfl | ⟨h1, _⟩; exact hk; exact hl' m h1
      refine ⟨m, .inr ?_, fun j hj => ?_⟩
      · rcases h1 with rfl | ⟨h1, h3⟩
        · exact ⟨by simp, h⟩
        · exact ⟨by simp [h1], ht _ _ _ ho hk hm h h3⟩
      · rcases List.mem_cons.1 hj with rfl | hj
        · rcases h1 with rfl | ⟨h1, h3⟩
          · exact hi _
          · exact fun h4 => hi _ (ht _ _ _ hk hm hk h3 h4)
        · exact h2 j hj
    · obtain ⟨m, h1, h2⟩ := top_of ht hi l o ho hl'
      have hm : P m := by rcases h1 with rfl | ⟨h1, _⟩; exact ho; exact hl' m h1
      refine ⟨m, ?_, fun j hj => ?_⟩
      · rcases h1 with h1 | ⟨h1, h3⟩
        · exact .inl h1
        · exact .inr ⟨by simp [h1], h3⟩
      · rcases List.mem_cons.1 hj with rfl | hj
        · rcases h1 with rfl | ⟨h1, h3⟩
          · exact h
          · exact fun h4 => h (ht _ _ _ ho hm hk h3 h4)
        · exact h2 j hj

theorem lub_num {k : Int} (hk : k = 1 ∨ k = 2) {x y z : Va} (vx : isV (.mk k []) x = true) (vy : isV (.mk k []) y = true) (hx : Nn x) (hy : Nn y) (h : joinE (.mk k []) x y = some z) : Lub (.mk k []) x y z := by
  rw [joinE, if_neg (by omega), if_neg (by omega), if_neg (by omega)] at h
  obtain rfl := Option.some.inj h
  obtain ⟨p, rfl, h1⟩ := (isV_num hk).1 vx
  obtain ⟨q, rfl, h2⟩ := (isV_num hk).1 vy
  have := hx.out.1
  have := hy.out.1
  simp only [Va.n] at *
  refine ⟨(isV_num hk).2 ⟨_, rfl, fun e => by have := h1 e; have := h2 e; omega⟩, .mk _ _ _ _ _ (by omega) (by decide) (fun _ h => by cases h) (fun _ h => by cases h), (leV_num hk _ _).2 (by simp only [Va.n]; omega), (leV_num hk _ _).2 (by simp only [Va.n]; omega), fun u _ _ h3 h4 => ?_⟩
  rw [leV_num hk] at *
  simp only [Va.n] at *
  omega

theorem lub_set {x y z : Va} (vx : isV (.mk 3 []) x = true) (vy : isV (.mk 3 []) y = true) (h : joinE (.mk 3 []) x y = some z) : Lub (.mk 3 []) x y z := by
  rw [joinE, if_pos rfl] at h
  obtain ⟨s, rfl, a1, a2, a3⟩ := isV_set.1 vx
  obtain ⟨s', rfl, b1, b2, b3⟩ := isV_set.1 vy
  replace h : (if 40 < (R1.bothL s s').length then none else some (Va.mk 0 0 (R1.bothL s s') [] [])) = some z := h
  split at h
  · cases h
  · rename_i hl
    obtain rfl := Option.some.inj h
    refine ⟨isV_set.2 ⟨_, rfl, R1.srt_bothL a1, by omega, ?_⟩, .mk _ _ _ _ _ (by decide) (by decide) (fun _ h => by cases h) (fun _ h => by cases h), (leV_set _ _).2 fun t ht => R1.mem_bothL.2 (.inl ht), (leV_set _ _).2 fun t ht => R1.mem_bothL.2 (.inr ht), fun u _ _ h3 h4 => ?_⟩
    · unfold shortV at *
      refine List.all_eq_true.2 fun t ht => ?_
      rcases R1.mem_bothL.1 ht with h | h
      · exact List.all_eq_true.1 a3 t h
      · exact List.all_eq_true.1 b3 t h
    · rw [leV_set] at *
      intro t ht
      rcases R1.mem_bothL.1 ht with h | h
      · exact h3 t h
      · exact h4 t h

theorem lub_last {x y z : Va} (vx : isV (.mk 6 []) x = true) (vy : isV (.mk 6 []) y = true) (hx : Nn x) (hy : Nn y) (h : joinE (.mk 6 []) x y = some z) : Lub (.mk 6 []) x y z := by
  have form : ∀ {x : Va}, isV (.mk 6 []) x = true → Va.mk x.n x.m x.s [] [] = x := fun {x} h => by
    rcases isV_last.1 h with rfl | ⟨_, _, _, rfl, _⟩ <;> rfl
  rw [joinE, if_neg (by decide), if_pos rfl] at h
  unfold lastE at h
  rw [form vx, form vy] at h
  have refl : ∀ x, leV (.mk 6 []) x x := fun x => (leV_last _ _).2 (by rw [writer_lex, keyW_ok.refl]; decide)
  split at h
  · rename_i hl
    obtain rfl := Option.some.inj h
    exact ⟨vy, hy, (leV_last _ _).2 (by omega), refl _, fun u _ _ _ h4 => h4⟩
  · rename_i hl
    obtain rfl := Option.some.inj h
    refine ⟨vx, hx, refl _, (leV_last _ _).2 ?_, fun u _ _ h3 _ => h3⟩
    rw [writer_lex] at hl ⊢
    rcases Int.lt_or_eq_of_le (show 0 ≤ _ from Int.not_lt.1 hl) with h | h
    · exact Int.le_of_lt (keyW_ok.gt h)
    · rw [keyW_ok.eq h.symm, keyW_ok.refl]; decide

theorem clock_fold {x y : Va} (vx : isV (.mk 7 []) x = true) (vy : isV (.mk 7 []) y = true) : (x.c ++ y.c).foldl mergeC [] = mergeC (ckE x) (ckE y) := by
  rcases isV_clock.1 vx with rfl | ⟨c, rfl, _, _⟩ <;> rcases isV_clock.1 vy with rfl | ⟨d, rfl, _, _⟩ <;> simp [Va.zero, Va.c, ckE, mergeC_nil_left, mergeC_nil_right]

theorem lub_clock {x y z : Va} (vx : isV (.mk 7 []) x = true) (vy : isV (.mk 7 []) y = true) (hx : Nn x) (hy : Nn y) (h : joinE (.mk 7 []) x y = some z) : Lub (.mk 7 []) x y z := by
  rw [joinE, if_neg (by decide), if_neg (by decide), if_pos rfl] at h
  unfold clockE at h
  rw [clock_fold vx vy] at h
  obtain ⟨a1, _, _⟩ := ck_ok vx
  obtain ⟨b1, _, _⟩ := ck_ok vy
  obtain ⟨a1, a2, a3⟩ := isC_out a1
  obtain ⟨b1, b2, b3⟩ := isC_out b1
  have na := hx.ck
  have nb := hy.ck
  have hof := ofC_merge _ _ a2 b2 na nb
  have hasc := merge_asc _ _ a2 b2
  have hz : ckE z = mergeC (ckE x) (ckE y) ∧ isV (.mk 7 []) z = true ∧ Nn z := by
    split at h
    · rename_i h0
      obtain rfl := Option.some.inj h
      exact ⟨h0.symm, isV_clock.2 (.inl rfl), .zero⟩
    · rename_i h0
      split at h
      · cases h
      · rename_i hl
        obtain rfl := Option.some.inj h
        refine ⟨rfl, isV_clock.2 (.inr ⟨_, rfl, isC_mk (by omega) hasc fun t ht => ?_, h0⟩), .mk _ _ _ _ _ (by decide) (by decide) (fun k hk => ?_) (fun _ h => by cases h)⟩
        · rcases mem_merge _ _ ht with h | h
          · exact a3 t h
          · exact b3 t h
        · simp only [List.mem_cons, List.not_mem_nil, or_false] at hk
          subst hk
          intro t ht
          rcases mem_merge _ _ ht with h | h
          · exact na t h
          · exact nb t h
  obtain ⟨z1, z2, z3⟩ := hz
  refine ⟨z2, z3, (leV_clock _ _).2 ?_, (leV_clock _ _).2 ?_, fun u vu nu h3 h4 => ?_⟩
  · rw [z1]; exact under_mk a2 fun q => by rw [hof q]; omega
  · rw [z1]; exact under_mk b2 fun q => by rw [hof q]; omega
  · rw [leV_clock] at *
    rw [z1]
    refine under_mk hasc fun q => ?_
    rw [hof q]
    have := under_of h3 nu.ck q
    have := under_of h4 nu.ck q
    omega

/-- What comes of what stands at each mark. -/
theorem tog_out {M : Type} {f : Va → Va → Option Va} {l : List (M × Va × Va)} {r : List (M × Va)} (h : togE f l = some r) : l.length ≤ 40 ∧ allE f l = some r := by
  unfold togE at h
  split at h
  · cases h
  · exact ⟨by omega, h⟩

theorem lub_map {a : Tr} {n : Nat} (hn : n ≤ 16) (ha : isT n a = true)
    (ih : ∀ x y z, OkV a x → OkV a y → (isV a x = true ∨ isV a y = true) → Nn x → Nn y → joinE a x y = some z → Lub a x y z) {x y z : Va} (vx : isV (.mk 4 [a]) x = true) (vy : isV (.mk 4 [a]) y = true) (hx : Nn x) (hy : Nn y) (h : joinE (.mk 4 [a]) x y = some z) : Lub (.mk 4 [a]) x y z := by
  rw [joinE, if_pos rfl] at h
  unfold mapE at h
  obtain ⟨s, v, rfl, a1, a2, a3, a4, a5⟩ := isV_map.1 vx
  obtain ⟨s', v', rfl, b1, b2, b3, b4, b5⟩ := isV_map.1 vy
  simp only [Va.s, Va.v] at h
  obtain ⟨r, hr, rfl⟩ := Option.map_eq_some_iff.1 h
  obtain ⟨h40, hall⟩ := tog_out hr
  have ux := srt_up a1 a2
  have uy := srt_up b1 b2
  have hmem := mem_mix (z := Va.zero) cmpS_ok _ _ ux uy
  have hmk := togE_marks' hall
  have hup : Up cmpS r := up_of_marks hmk (mix_up (z := Va.zero) cmpS_ok _ _ ux uy)
  have nx := hx.out.2.2.2
  have ny := hy.out.2.2.2
  simp only [Va.v] at nx ny
  -- what stands at a mark
  have part : ∀ q ∈ mix cmpS Va.zero (s.zip v) (s'.zip v'), ∀ w, joinE a q.2.1 q.2.2 = some w → Lub a q.2.1 q.2.2 w ∧ w ≠ botT a ∧ (q.1 ∈ s ∨ q.1 ∈ s') := fun q hq w hw => by
    have bot : ∀ {p w : Va}, isV a p = true → p ≠ botT a → Nn p → leV a p w → w ≠ botT a := fun vp hp np hl e => by
      subst e
      exact hp (leV_antisymm n a ha _ _ vp (isV_bot n a hn ha) np (Nn.bot n a hn ha) hl (leV_bot n a hn ha _ np))
    rcases (hmem q).1 hq with ⟨h1, h2⟩ | ⟨h1, _, h2⟩ | ⟨_, h1, h2⟩
    · have o1 := List.of_mem_zip h1
      have o2 := List.of_mem_zip h2
      have L := ih _ _ _ (.inl (a5 _ o1.2).1) (.inl (b5 _ o2.2).1) (.inl (a5 _ o1.2).1) (nx _ o1.2) (ny _ o2.2) hw
      exact ⟨L, bot (a5 _ o1.2).1 (a5 _ o1.2).2 (nx _ o1.2) L.left, .inl o1.1⟩
    · have o1 := List.of_mem_zip h1
      have L := ih _ _ _ (.inl (a5 _ o1.2).1) (.inr h2) (.inl (a5 _ o1.2).1) (nx _ o1.2) (by rw [h2]; exact .zero) hw
      exact ⟨L, bot (a5 _ o1.2).1 (a5 _ o1.2).2 (nx _ o1.2) L.left, .inl o1.1⟩
    · have o2 := List.of_mem_zip h2
      have L := ih _ _ _ (.inr h1) (.inl (b5 _ o2.2).1) (.inr (b5 _ o2.2).1) (by rw [h1]; exact .zero) (ny _ o2.2) hw
      exact ⟨L, bot (b5 _ o2.2).1 (b5 _ o2.2).2 (ny _ o2.2) L.right, .inr o2.1⟩
  have rel : ∀ p ∈ r, ∃ q ∈ mix cmpS Va.zero (s.zip v) (s'.zip v'), q.1 = p.1 ∧ joinE a q.2.1 q.2.2 = some p.2 := fun p hp => (mem_allE hall p).1 hp
  refine ⟨isV_map.2 ⟨_, _, rfl, ?_, by simp, ?_, ?_, ?_⟩, .mk _ _ _ _ _ (by decide) (by decide) (fun _ h => by cases h) ?_, (leV_map _ _ _).2 ?_, (leV_map _ _ _).2 ?_, fun u vu nu h3 h4 => (leV_map _ _ _).2 ?_⟩
  · refine ((List.pairwise_map (R := fun x y => cmpS x y < 0) (f := fun p : Str × Va => p.1)).2 hup).imp fun {x y} h => ?_
    unfold cmpS at h
    by_cases h1 : x < y
    · exact h1
    · rw [if_neg h1] at h
      split at h <;> omega
  · rw [List.length_map, allE_len hall]; exact h40
  · unfold shortV at *
    refine List.all_eq_true.2 fun t ht => ?_
    obtain ⟨p, hp, rfl⟩ := List.mem_map.1 ht
    obtain ⟨q, hq, e, hw⟩ := rel p hp
    rw [← e]
    rcases (part q hq _ hw).2.2 with h | h
    · exact List.all_eq_true.1 a4 _ h
    · exact List.all_eq_true.1 b4 _ h
  · intro w hw
    obtain ⟨p, hp, rfl⟩ := List.mem_map.1 hw
    obtain ⟨q, hq, _, hw⟩ := rel p hp
    exact ⟨(part q hq _ hw).1.is, (part q hq _ hw).2.1⟩
  · intro w hw
    obtain ⟨p, hp, rfl⟩ := List.mem_map.1 hw
    obtain ⟨q, hq, _, hw⟩ := rel p hp
    exact (part q hq _ hw).1.nn
  · intro p hp
    simp only [Va.s, Va.v] at hp ⊢
    rw [zip_parts]
    obtain ⟨q, hq, e, e2⟩ : ∃ q ∈ mix cmpS Va.zero (s.zip v) (s'.zip v'), q.1 = p.1 ∧ q.2.1 = p.2 := by
      by_cases h : ∃ q ∈ s'.zip v', q.1 = p.1
      · obtain ⟨q, hq, e⟩ := h
        exact ⟨(p.1, p.2, q.2), (hmem _).2 (.inl ⟨hp, by rw [← e]; exact hq⟩), rfl, rfl⟩
      · exact ⟨(p.1, p.2, Va.zero), (hmem _).2 (.inr (.inl ⟨hp, fun q hq e => h ⟨q, hq, e⟩, rfl⟩)), rfl, rfl⟩
    obtain ⟨w, hw⟩ := allE_has hall q hq
    refine ⟨(q.1, w), (mem_allE hall _).2 ⟨q, hq, rfl, hw⟩, e, ?_⟩
    rw [← e2]; exact (part q hq w hw).1.left
  · intro p hp
    simp only [Va.s, Va.v] at hp ⊢
    rw [zip_parts]
    obtain ⟨q, hq, e, e2⟩ : ∃ q ∈ mix cmpS Va.zero (s.zip v) (s'.zip v'), q.1 = p.1 ∧ q.2.2 = p.2 := by
      by_cases h : ∃ q ∈ s.zip v, q.1 = p.1
      · obtain ⟨q, hq, e⟩ := h
        exact ⟨(p.1, q.2, p.2), (hmem _).2 (.inl ⟨by rw [← e]; exact hq, hp⟩), rfl, rfl⟩
      · exact ⟨(p.1, Va.zero, p.2), (hmem _).2 (.inr (.inr ⟨fun q hq e => h ⟨q, hq, e⟩, rfl, hp⟩)), rfl, rfl⟩
    obtain ⟨w, hw⟩ := allE_has hall q hq
    refine ⟨(q.1, w), (mem_allE hall _).2 ⟨q, hq, rfl, hw⟩, e, ?_⟩
    rw [← e2]; exact (part q hq w hw).1.right
  · obtain ⟨su, vu', rfl, u1, u2, u3, u4, u5⟩ := isV_map.1 vu
    have nu' := nu.out.2.2.2
    simp only [Va.v] at nu'
    rw [leV_map] at h3 h4
    intro p hp
    simp only [Va.s, Va.v] at hp ⊢
    rw [zip_parts] at hp
    obtain ⟨q, hq, e, hw⟩ := rel p hp
    have L := (part q hq _ hw).1
    rcases (hmem q).1 hq with ⟨i1, i2⟩ | ⟨i1, _, i2⟩ | ⟨_, i1, i2⟩
    · obtain ⟨t1, ht1, e1, l1⟩ := h3 _ i1
      obtain ⟨t2, ht2, e2, l2⟩ := h4 _ i2
      simp only [Va.s, Va.v] at ht1 ht2
      obtain rfl := up_one cmpS_ok (srt_up u1 u2) ht1 ht2 (e1.trans e2.symm)
      exact ⟨t1, ht1, e1.trans e, L.least _ (u5 _ (List.of_mem_zip ht1).2).1 (nu' _ (List.of_mem_zip ht1).2) l1 l2⟩
    · obtain ⟨t1, ht1, e1, l1⟩ := h3 _ i1
      simp only [Va.s, Va.v] at ht1
      exact ⟨t1, ht1, e1.trans e, L.least _ (u5 _ (List.of_mem_zip ht1).2).1 (nu' _ (List.of_mem_zip ht1).2) l1 (by rw [i2]; exact leV_zero n a ha _ (nu' _ (List.of_mem_zip ht1).2))⟩
    · obtain ⟨t1, ht1, e1, l1⟩ := h4 _ i2
      simp only [Va.s, Va.v] at ht1
      exact ⟨t1, ht1, e1.trans e, L.least _ (u5 _ (List.of_mem_zip ht1).2).1 (nu' _ (List.of_mem_zip ht1).2) (by rw [i1]; exact leV_zero n a ha _ (nu' _ (List.of_mem_zip ht1).2)) l1⟩

theorem lub_cause {a : Tr} {n : Nat} (ha : isT n a = true)
    (ih : ∀ x y z, OkV a x → OkV a y → (isV a x = true ∨ isV a y = true) → Nn x → Nn y → joinE a x y = some z → Lub a x y z) {x y z : Va} (vx : isV (.mk 8 [a]) x = true) (vy : isV (.mk 8 [a]) y = true) (hx : Nn x) (hy : Nn y) (h : joinE (.mk 8 [a]) x y = some z) : Lub (.mk 8 [a]) x y z := by
  rw [joinE, if_neg (by decide)] at h
  unfold causeE at h
  obtain ⟨s, v, rfl, a2, a3, a1, a4, a5⟩ := isV_cause.1 vx
  obtain ⟨s', v', rfl, b2, b3, b1, b4, b5⟩ := isV_cause.1 vy
  simp only [Va.c, Va.v] at h
  obtain ⟨r, hr, rfl⟩ := Option.map_eq_some_iff.1 h
  obtain ⟨h40, hall⟩ := tog_out hr
  have ux := apr_up a1 a2
  have uy := apr_up b1 b2
  have hmem := mem_mix (z := Va.zero) cmpT_ok _ _ ux uy
  have hmk := togE_marks' hall
  have hup : Up cmpT r := up_of_marks hmk ((mix_up (z := Va.zero) cmpT_ok _ _ ux uy).filter _)
  have nx := hx.out.2.2.2
  have ny := hy.out.2.2.2
  have kx := hx.out.2.2.1
  have ky := hy.out.2.2.1
  simp only [Va.v, Va.c] at nx ny kx ky
  have kc : ∀ k ∈ s ++ s', isC k = true ∧ NnC k := fun k hk => by
    rcases List.mem_append.1 hk with h | h
    · exact ⟨a4 k h, kx k h⟩
    · exact ⟨b4 k h, ky k h⟩
  have unseen : ∀ {k : List Tk}, (!seenE k (s ++ s')) = true → ∀ o ∈ s ++ s', cmpC k o ≠ -1 := fun {k} h o ho e => by
    unfold seenE at h
    simp only [Bool.not_eq_true', List.any_eq_false, decide_eq_true_eq] at h
    exact h o ho e
  have toseen : ∀ {k : List Tk}, (∀ o ∈ s ++ s', cmpC k o ≠ -1) → (!seenE k (s ++ s')) = true := fun {k} h => by
    unfold seenE
    simp only [Bool.not_eq_true', List.any_eq_false, decide_eq_true_eq]
    exact h
  -- what stands at a mark
  have part : ∀ q ∈ mix cmpT Va.zero (s.zip v) (s'.zip v'), (∀ w, joinE a q.2.1 q.2.2 = some w → Lub a q.2.1 q.2.2 w) ∧ q.1 ∈ s ++ s' := fun q hq => by
    rcases (hmem q).1 hq with ⟨h1, h2⟩ | ⟨h1, _, h2⟩ | ⟨_, h1, h2⟩
    · have o1 := List.of_mem_zip h1
      have o2 := List.of_mem_zip h2
      exact ⟨fun w hw => ih _ _ _ (.inl (a5 _ o1.2)) (.inl (b5 _ o2.2)) (.inl (a5 _ o1.2)) (nx _ o1.2) (ny _ o2.2) hw, List.mem_append.2 (.inl o1.1)⟩
    · have o1 := List.of_mem_zip h1
      exact ⟨fun w hw => ih _ _ _ (.inl (a5 _ o1.2)) (.inr h2) (.inl (a5 _ o1.2)) (nx _ o1.2) (by rw [h2]; exact .zero) hw, List.mem_append.2 (.inl o1.1)⟩
    · have o2 := List.of_mem_zip h2
      exact ⟨fun w hw => ih _ _ _ (.inr h1) (.inl (b5 _ o2.2)) (.inr (b5 _ o2.2)) (by rw [h1]; exact .zero) (ny _ o2.2) hw, List.mem_append.2 (.inr o2.1)⟩
  have rel : ∀ p ∈ r, ∃ q ∈ mix cmpT Va.zero (s.zip v) (s'.zip v'), q.1 = p.1 ∧ joinE a q.2.1 q.2.2 = some p.2 ∧ ∀ o ∈ s ++ s', cmpC p.1 o ≠ -1 := fun p hp => by
    obtain ⟨q, hq, e, hw⟩ := (mem_allE hall p).1 hp
    obtain ⟨h1, h2⟩ := List.mem_filter.1 hq
    exact ⟨q, h1, e, hw, e ▸ unseen h2⟩
  have mark : ∀ p ∈ r, p.1 ∈ s ++ s' := fun p hp => by
    obtain ⟨q, hq, e, _⟩ := rel p hp
    rw [← e]; exact (part q hq).2
  -- each mark is there
  have lft : ∀ p ∈ s.zip v, ∃ q ∈ mix cmpT Va.zero (s.zip v) (s'.zip v'), q.1 = p.1 ∧ q.2.1 = p.2 := fun p hp => by
    by_cases h : ∃ q ∈ s'.zip v', q.1 = p.1
    · obtain ⟨q, hq, e⟩ := h
      exact ⟨(p.1, p.2, q.2), (hmem _).2 (.inl ⟨hp, by rw [← e]; exact hq⟩), rfl, rfl⟩
    · exact ⟨(p.1, p.2, Va.zero), (hmem _).2 (.inr (.inl ⟨hp, fun q hq e => h ⟨q, hq, e⟩, rfl⟩)), rfl, rfl⟩
  have rgt : ∀ p ∈ s'.zip v', ∃ q ∈ mix cmpT Va.zero (s.zip v) (s'.zip v'), q.1 = p.1 ∧ q.2.2 = p.2 := fun p hp => by
    by_cases h : ∃ q ∈ s.zip v, q.1 = p.1
    · obtain ⟨q, hq, e⟩ := h
      exact ⟨(p.1, q.2, p.2), (hmem _).2 (.inl ⟨by rw [← e]; exact hq, hp⟩), rfl, rfl⟩
    · exact ⟨(p.1, Va.zero, p.2), (hmem _).2 (.inr (.inr ⟨fun q hq e => h ⟨q, hq, e⟩, rfl, hp⟩)), rfl, rfl⟩
  have stays : ∀ q ∈ mix cmpT Va.zero (s.zip v) (s'.zip v'), (∀ o ∈ s ++ s', cmpC q.1 o ≠ -1) → ∃ w, (q.1, w) ∈ r ∧ joinE a q.2.1 q.2.2 = some w := fun q hq hs => by
    have hf := List.mem_filter (p := fun p : List Tk × Va × Va => !seenE p.1 (s ++ s')) |>.2 ⟨hq, toseen hs⟩
    obtain ⟨w, hw⟩ := allE_has hall q hf
    exact ⟨w, (mem_allE hall _).2 ⟨q, hf, rfl, hw⟩, hw⟩
  have memzip : ∀ {s : List (List Tk)} {v : List Va}, s.length = v.length → ∀ k ∈ s, ∃ p ∈ s.zip v, p.1 = k := fun {s v} hl k hk => by
    have : k ∈ (s.zip v).map (·.1) := by rw [List.map_fst_zip (by omega)]; exact hk
    obtain ⟨p, hp, e⟩ := List.mem_map.1 this
    exact ⟨p, hp, e⟩
  have above : ∀ k ∈ s ++ s', (∃ o ∈ s ++ s', cmpC k o = -1) → ∃ p ∈ r, cmpC k p.1 = -1 := fun k hk => by
    rintro ⟨o, ho, hko⟩
    obtain ⟨m, h1, h2⟩ := top_of (R := fun a b => cmpC a b = -1) (P := fun k => k ∈ s ++ s') (fun x y z hx hy hz h1 h2 => cmpC_trans h1 h2 (kc y hy).2 (kc z hz).2) cmpC_irrefl (s ++ s') o ho fun _ h => h
    have hm : m ∈ s ++ s' := by rcases h1 with rfl | ⟨h1, _⟩; exact ho; exact h1
    have hkm : cmpC k m = -1 := by
      rcases h1 with rfl | ⟨_, h1⟩
      · exact hko
      · exact cmpC_trans hko h1 (kc o ho).2 (kc m hm).2
    obtain ⟨q, hq, e⟩ : ∃ q ∈ mix cmpT Va.zero (s.zip v) (s'.zip v'), q.1 = m := by
      rcases List.mem_append.1 hm with h | h
      · obtain ⟨p, hp, e⟩ := memzip a2 m h
        obtain ⟨q, hq, e2, _⟩ := lft p hp
        exact ⟨q, hq, e2.trans e⟩
      · obtain ⟨p, hp, e⟩ := memzip b2 m h
        obtain ⟨q, hq, e2, _⟩ := rgt p hp
        exact ⟨q, hq, e2.trans e⟩
    obtain ⟨w, hw, _⟩ := stays q hq (by rw [e]; exact h2)
    exact ⟨_, hw, by rw [e]; exact hkm⟩
  refine ⟨isV_cause.2 ⟨_, _, rfl, by simp, ?_, ?_, ?_, ?_⟩, .mk _ _ _ _ _ (by decide) (by decide) ?_ ?_, (leV_cause _ _ _).2 ?_, (leV_cause _ _ _).2 ?_, fun u vu nu h3 h4 => (leV_cause _ _ _).2 ?_⟩
  · rw [List.length_map, allE_len hall]; exact h40
  · refine List.pairwise_map.2 (List.Pairwise.imp_of_mem (fun {p q} hp hq h => ?_) hup)
    refine ⟨cmpT_lt.1 h, ?_⟩
    obtain ⟨_, _, _, _, p2⟩ := rel p hp
    obtain ⟨_, _, _, _, q2⟩ := rel q hq
    have c1 := p2 q.1 (mark q hq)
    have c2 := q2 p.1 (mark p hp)
    have hne : p.1 ≠ q.1 := cmpT_ok.ne h
    have c0 : ¬ (underC p.1 q.1 = true ∧ underC q.1 p.1 = true) := fun ⟨h1, h2⟩ =>
      hne (clock_ext (kc _ (mark p hp)).1 (kc _ (mark q hq)).1 fun t => Int.le_antisymm (under_of h1 (kc _ (mark q hq)).2 t) (under_of h2 (kc _ (mark p hp)).2 t))
    unfold cmpC at c1 c2 ⊢
    cases h1 : underC p.1 q.1 <;> cases h2 : underC q.1 p.1 <;> rw [h1, h2] at c0 c1 <;> rw [h1, h2] at c2 <;> simp [C3.cmpB] at c0 c1 c2 ⊢
  · intro k hk
    obtain ⟨p, hp, rfl⟩ := List.mem_map.1 hk
    exact (kc _ (mark p hp)).1
  · intro w hw
    obtain ⟨p, hp, rfl⟩ := List.mem_map.1 hw
    obtain ⟨q, hq, _, hw, _⟩ := rel p hp
    exact ((part q hq).1 _ hw).is
  · intro k hk
    obtain ⟨p, hp, rfl⟩ := List.mem_map.1 hk
    exact (kc _ (mark p hp)).2
  · intro w hw
    obtain ⟨p, hp, rfl⟩ := List.mem_map.1 hw
    obtain ⟨q, hq, _, hw, _⟩ := rel p hp
    exact ((part q hq).1 _ hw).nn
  · intro p hp
    simp only [Va.c, Va.v] at hp ⊢
    rw [zip_parts]
    obtain ⟨q, hq, e, e2⟩ := lft p hp
    by_cases hs : ∃ o ∈ s ++ s', cmpC p.1 o = -1
    · exact .inl (above p.1 (e ▸ (part q hq).2) hs)
    · obtain ⟨w, hw, hj⟩ := stays q hq (by rw [e]; exact fun o ho h => hs ⟨o, ho, h⟩)
      exact .inr ⟨_, hw, e, by rw [← e2]; exact ((part q hq).1 w hj).left⟩
  · intro p hp
    simp only [Va.c, Va.v] at hp ⊢
    rw [zip_parts]
    obtain ⟨q, hq, e, e2⟩ := rgt p hp
    by_cases hs : ∃ o ∈ s ++ s', cmpC p.1 o = -1
    · exact .inl (above p.1 (e ▸ (part q hq).2) hs)
    · obtain ⟨w, hw, hj⟩ := stays q hq (by rw [e]; exact fun o ho h => hs ⟨o, ho, h⟩)
      exact .inr ⟨_, hw, e, by rw [← e2]; exact ((part q hq).1 w hj).right⟩
  · obtain ⟨su, vu', rfl, u2, u3, u1, u4, u5⟩ := isV_cause.1 vu
    have nu' := nu.out.2.2.2
    simp only [Va.v] at nu'
    rw [leV_cause] at h3 h4
    intro p hp
    simp only [Va.c, Va.v] at hp ⊢
    rw [zip_parts] at hp
    obtain ⟨q, hq, e, hw, _⟩ := rel p hp
    have L := (part q hq).1 _ hw
    rw [← e]
    rcases (hmem q).1 hq with ⟨i1, i2⟩ | ⟨i1, _, i2⟩ | ⟨_, i1, i2⟩
    · rcases h3 _ i1 with h | ⟨t1, ht1, e1, l1⟩
      · exact .inl h
      · rcases h4 _ i2 with h | ⟨t2, ht2, e2, l2⟩
        · exact .inl h
        · simp only [Va.c, Va.v] at ht1 ht2
          obtain rfl := up_one cmpT_ok (apr_up u1 u2) ht1 ht2 (e1.trans e2.symm)
          exact .inr ⟨t1, ht1, e1, L.least _ (u5 _ (List.of_mem_zip ht1).2) (nu' _ (List.of_mem_zip ht1).2) l1 l2⟩
    · rcases h3 _ i1 with h | ⟨t1, ht1, e1, l1⟩
      · exact .inl h
      · simp only [Va.c, Va.v] at ht1
        exact .inr ⟨t1, ht1, e1, L.least _ (u5 _ (List.of_mem_zip ht1).2) (nu' _ (List.of_mem_zip ht1).2) l1 (by rw [i2]; exact leV_zero n a ha _ (nu' _ (List.of_mem_zip ht1).2))⟩
    · rcases h4 _ i2 with h | ⟨t1, ht1, e1, l1⟩
      · exact .inl h
      · simp only [Va.c, Va.v] at ht1
        exact .inr ⟨t1, ht1, e1, L.least _ (u5 _ (List.of_mem_zip ht1).2) (nu' _ (List.of_mem_zip ht1).2) (by rw [i1]; exact leV_zero n a ha _ (nu' _ (List.of_mem_zip ht1).2)) l1⟩
/-- Both together: the least that is not less than either. -/
theorem lub_of : ∀ (n : Nat) (t : Tr), n ≤ 16 → isT n t = true → ∀ x y z, OkV t x → OkV t y → (isV t x = true ∨ isV t y = true) → Nn x → Nn y → joinE t x y = some z → Lub t x y z := by
  intro n
  induction n with
  | zero => intro t _ h; simp [isT] at h
  | succ n ih =>
    intro t hn ht x y z ox oy one hx hy h
    obtain ⟨m, hm, hc⟩ := isT_cases ht
    obtain rfl : n = m := by omega
    rcases hc with ⟨k, hk, rfl⟩ | ⟨k, a, hk, rfl, ha⟩ | ⟨a, b, rfl, ha, hb⟩
    · have h5 : (Tr.mk k []).k ≠ 5 := by simp only [Tr.k]; omega
      have all : ∀ {x}, OkV (.mk k []) x → isV (.mk k []) x = true := fun {x} o => o.elim id fun e => e ▸ isV_zero hn ht h5
      have vx := all ox
      have vy := all oy
      rcases hk with rfl | rfl | rfl | rfl | rfl
      · exact lub_num (.inl rfl) vx vy hx hy h
      · exact lub_num (.inr rfl) vx vy hx hy h
      · exact lub_set vx vy h
      · exact lub_last vx vy hx hy h
      · exact lub_clock vx vy hx hy h
    · have h5 : (Tr.mk k [a]).k ≠ 5 := by simp only [Tr.k]; omega
      have all : ∀ {x}, OkV (.mk k [a]) x → isV (.mk k [a]) x = true := fun {x} o => o.elim id fun e => e ▸ isV_zero hn ht h5
      have vx := all ox
      have vy := all oy
      rcases hk with rfl | rfl
      · exact lub_map (by omega) ha (ih a (by omega) ha) vx vy hx hy h
      · exact lub_cause ha (ih a (by omega) ha) vx vy hx hy h
    · rw [joinE] at h
      unfold pairE at h
      obtain ⟨u, hu, h⟩ := Option.bind_eq_some_iff.1 h
      obtain ⟨v, hv, rfl⟩ := Option.map_eq_some_iff.1 h
      have side : ∀ {x}, OkV (.mk 5 [a, b]) x → (OkV a (halfE x 0) ∧ OkV b (halfE x 1)) ∧ (isV (.mk 5 [a, b]) x = true → isV a (halfE x 0) = true ∧ isV b (halfE x 1) = true) := fun {x} o => by
        have f : isV (.mk 5 [a, b]) x = true → isV a (halfE x 0) = true ∧ isV b (halfE x 1) = true := fun h => by
          obtain ⟨p, q, rfl, h1, h2⟩ := isV_pair.1 h
          exact ⟨h1, h2⟩
        refine ⟨?_, f⟩
        rcases o with o | rfl
        · exact ⟨.inl (f o).1, .inl (f o).2⟩
        · exact ⟨.inr rfl, .inr rfl⟩
      have L := ih a (by omega) ha _ _ _ (side ox).1.1 (side oy).1.1 (one.imp (fun h => ((side ox).2 h).1) (fun h => ((side oy).2 h).1)) (hx.half 0) (hy.half 0) hu
      have R := ih b (by omega) hb _ _ _ (side ox).1.2 (side oy).1.2 (one.imp (fun h => ((side ox).2 h).2) (fun h => ((side oy).2 h).2)) (hx.half 1) (hy.half 1) hv
      refine ⟨isV_pair.2 ⟨_, _, rfl, L.is, R.is⟩, .mk _ _ _ _ _ (by decide) (by decide) (fun _ h => by cases h) fun w hw => ?_, (leV_pair _ _ _ _).2 ⟨L.left, R.left⟩, (leV_pair _ _ _ _).2 ⟨L.right, R.right⟩, fun w vw nw h3 h4 => ?_⟩
      · simp only [List.mem_cons, List.not_mem_nil, or_false] at hw
        rcases hw with rfl | rfl
        · exact L.nn
        · exact R.nn
      · rw [leV_pair] at h3 h4 ⊢
        obtain ⟨p, q, rfl, w1, w2⟩ := isV_pair.1 vw
        exact ⟨L.least _ w1 (nw.half 0) h3.1 h4.1, R.least _ w2 (nw.half 1) h3.2 h4.2⟩
end Go.Proofs.YtleejffjnknohaaGreat.J5

namespace Go.Proofs.YtleejffjnknohaaGreat.J5
open S2 (Tr isT)
open V4 (Va Vl Ck isV botT)

/-- One more: what comes of it, or the error's number. -/
def stepE (t : Tr) (x v : Va) : Except Int Va := if isV t x = true ∧ isV t v = true then (match joinE t x v with | some z => .ok z | none => .error 13) else .error 14
/-- All of them, from nothing on. -/
def allF (t : Tr) (l : List Va) : Except Int Va := if isT 16 t = true then l.foldlM (stepE t) (botT t) else .error 14

theorem stepE_ok {t : Tr} {x v z : Va} (h : stepE t x v = .ok z) : isV t x = true ∧ isV t v = true ∧ joinE t x v = some z := by
  unfold stepE at h
  split at h
  · rename_i hv
    cases hj : joinE t x v with
    | none => rw [hj] at h; cases h
    | some w => rw [hj] at h; cases h; exact ⟨hv.1, hv.2, rfl⟩
  · cases h
theorem stepE_err {t : Tr} {x v : Va} {e : Int} (h : stepE t x v = .error e) : (e = 13 ∧ isV t x = true ∧ isV t v = true ∧ joinE t x v = none) ∨ (e = 14 ∧ ¬ (isV t x = true ∧ isV t v = true)) := by
  unfold stepE at h
  split at h
  · rename_i hv
    cases hj : joinE t x v with
    | none => rw [hj] at h; cases h; exact .inl ⟨rfl, hv.1, hv.2, rfl⟩
    | some w => rw [hj] at h; cases h
  · rename_i hv
    cases h; exact .inr ⟨rfl, hv⟩

theorem foldlM_cons' {t : Tr} {x v : Va} {l : List Va} : (v :: l).foldlM (stepE t) x = (stepE t x v).bind fun y => l.foldlM (stepE t) y := rfl
theorem foldlM_snoc {t : Tr} {x v : Va} {l : List Va} : (l ++ [v]).foldlM (stepE t) x = (l.foldlM (stepE t) x).bind fun y => stepE t y v := by
  induction l generalizing x with
  | nil =>
    rw [List.nil_append, foldlM_cons']
    show _ = (Except.ok x : Except Int Va).bind _
    cases h : stepE t x v <;> simp [Except.bind, h, pure, Except.pure]
  | cons w l ih =>
    rw [List.cons_append, foldlM_cons', foldlM_cons']
    cases stepE t x w with
    | error e => rfl
    | ok y => exact ih
theorem foldlM_take {t : Tr} {x v : Va} {l : List Va} {k : Nat} (hv : l[k]? = some v) : (l.take (k + 1)).foldlM (stepE t) x = ((l.take k).foldlM (stepE t) x).bind fun y => stepE t y v := by
  obtain ⟨hk, he⟩ := List.getElem?_eq_some_iff.1 hv
  rw [List.take_succ_eq_append_getElem hk, he, foldlM_snoc]
theorem foldlM_error {t : Tr} {x : Va} {l : List Va} {k : Nat} {e : Int} (h : (l.take k).foldlM (stepE t) x = .error e) : l.foldlM (stepE t) x = .error e := by
  have key : ∀ (a b : List Va) (x : Va), a.foldlM (stepE t) x = .error e → (a ++ b).foldlM (stepE t) x = .error e := by
    intro a
    induction a with
    | nil => intro b x h; cases h
    | cons v a ih =>
      intro b x h
      rw [List.cons_append, foldlM_cons']
      rw [foldlM_cons'] at h
      cases hs : stepE t x v with
      | error e' => rw [hs] at h; exact h
      | ok y => rw [hs] at h; exact ih b y h
  have := key (l.take k) (l.drop k) x h
  rwa [List.take_append_drop] at this

theorem fold_lub {t : Tr} (ht : isT 16 t = true) : ∀ (l : List Va) (x z : Va), isV t x = true → Nn x → (∀ v ∈ l, Nn v) → l.foldlM (stepE t) x = .ok z →
    isV t z = true ∧ Nn z ∧ leV t x z ∧ (∀ v ∈ l, isV t v = true ∧ leV t v z) ∧ ∀ u, isV t u = true → Nn u → leV t x u → (∀ v ∈ l, leV t v u) → leV t z u := by
  intro l
  induction l with
  | nil =>
    intro x z vx nx _ h
    cases h
    exact ⟨vx, nx, leV_refl 16 t ht x vx nx, (fun _ h => by cases h), fun u _ _ h _ => h⟩
  | cons v l ih =>
    intro x z vx nx nl h
    rw [foldlM_cons'] at h
    cases hs : stepE t x v with
    | error e => rw [hs] at h; cases h
    | ok y =>
      rw [hs] at h
      obtain ⟨_, vv, hj⟩ := stepE_ok hs
      have nv := nl v (by simp)
      have L := lub_of 16 t (Nat.le_refl _) ht x v y (.inl vx) (.inl vv) (.inl vx) nx nv hj
      obtain ⟨z1, z2, z3, z4, z5⟩ := ih y z L.is L.nn (fun w hw => nl w (by simp [hw])) h
      refine ⟨z1, z2, leV_trans 16 t ht _ _ _ nx L.nn z2 L.left z3, fun w hw => ?_, fun u vu nu h1 h2 => ?_⟩
      · rcases List.mem_cons.1 hw with rfl | hw
        · exact ⟨vv, leV_trans 16 t ht _ _ _ nv L.nn z2 L.right z3⟩
        · exact z4 w hw
      · exact z5 u vu nu (L.least u vu nu h1 (h2 v (by simp))) fun w hw => h2 w (by simp [hw])

theorem allF_same {t : Tr} {l m : List Va} {a b : Va} (ha : allF t l = .ok a) (hb : allF t m = .ok b) (nl : ∀ v ∈ l, Nn v) (hm : ∀ v, v ∈ l ↔ v ∈ m) : a = b := by
  unfold allF at ha hb
  split at ha
  · rename_i ht
    rw [if_pos ht] at hb
    have vb := isV_bot 16 t (Nat.le_refl _) ht
    have nb := Nn.bot 16 t (Nat.le_refl _) ht
    obtain ⟨a1, a2, a3, a4, a5⟩ := fold_lub ht l _ a vb nb nl ha
    obtain ⟨b1, b2, b3, b4, b5⟩ := fold_lub ht m _ b vb nb (fun v hv => nl v ((hm v).2 hv)) hb
    exact leV_antisymm 16 t ht a b a1 b1 a2 b2 (a5 b b1 b2 b3 fun v hv => (b4 v ((hm v).1 hv)).2) (b5 a a1 a2 a3 fun v hv => (a4 v ((hm v).2 hv)).2)
  · cases ha

/-- What isn't of the schema is told, or it was too large ahead of it. -/
theorem fold_err {t : Tr} (ht : isT 16 t = true) : ∀ (l : List Va) (x : Va) (e : Int), isV t x = true → Nn x → (∀ v ∈ l, Nn v) → l.foldlM (stepE t) x = .error e → e = 13 ∨ (e = 14 ∧ ∃ v ∈ l, isV t v = false) := by
  intro l
  induction l with
  | nil => intro x e _ _ _ h; cases h
  | cons v l ih =>
    intro x e vx nx nl h
    rw [foldlM_cons'] at h
    cases hs : stepE t x v with
    | error e' =>
      rw [hs] at h
      cases h
      rcases stepE_err hs with ⟨h1, _⟩ | ⟨h1, h2⟩
      · exact .inl h1
      · refine .inr ⟨h1, v, by simp, ?_⟩
        cases hv : isV t v with
        | false => rfl
        | true => exact absurd ⟨vx, hv⟩ h2
    | ok y =>
      rw [hs] at h
      obtain ⟨_, vv, hj⟩ := stepE_ok hs
      have L := lub_of 16 t (Nat.le_refl _) ht x v y (.inl vx) (.inl vv) (.inl vx) nx (nl v (by simp)) hj
      rcases ih y e L.is L.nn (fun w hw => nl w (by simp [hw])) h with h1 | ⟨h1, w, hw, h2⟩
      · exact .inl h1
      · exact .inr ⟨h1, w, by simp [hw], h2⟩

/-- An error of one of them, and the other is told: then that error is that it was too large. -/
theorem allF_err {t : Tr} {l m : List Va} {b : Va} {e : Int} (ha : allF t l = .error e) (hb : allF t m = .ok b) (nl : ∀ v ∈ l, Nn v) (hm : ∀ v, v ∈ l ↔ v ∈ m) : e = 13 := by
  unfold allF at ha hb
  split at hb
  · rename_i ht
    rw [if_pos ht] at ha
    have vb := isV_bot 16 t (Nat.le_refl _) ht
    have nb := Nn.bot 16 t (Nat.le_refl _) ht
    obtain ⟨_, _, _, b4, _⟩ := fold_lub ht m _ b vb nb (fun v hv => nl v ((hm v).2 hv)) hb
    rcases fold_err ht l _ e vb nb nl ha with h | ⟨_, v, hv, h⟩
    · exact h
    · rw [(b4 v ((hm v).1 hv)).1] at h; cases h
  · cases hb
theorem allF_num {t : Tr} {l : List Va} {e : Int} (ha : allF t l = .error e) (nl : ∀ v ∈ l, Nn v) : e = 13 ∨ e = 14 := by
  unfold allF at ha
  split at ha
  · rename_i ht
    exact (fold_err ht l _ e (isV_bot 16 t (Nat.le_refl _) ht) (Nn.bot 16 t (Nat.le_refl _) ht) nl ha).imp id fun h => h.1
  · cases ha; exact .inr rfl

theorem Nn.of_inp {P : Nat → Prop} {w : World} {x : Vl} (h : x.Inp P w) : Nn x.er := by
  induction h with
  | mk n m sA sc ss cA cc cs vA vc vs h1 h2 _ _ _ _ _ h8 _ _ _ ih =>
    rw [V4.er_mk]
    refine .mk _ _ _ _ _ h1.1 h2.1 (fun k hk => ?_) fun y hy => ?_
    · obtain ⟨c, hc, rfl⟩ := List.mem_map.1 hk
      exact fun t ht => ((h8 c hc).nok t ht).1
    · obtain ⟨z, hz, rfl⟩ := List.mem_map.1 hy
      exact ih z hz
end Go.Proofs.YtleejffjnknohaaGreat.J5

namespace Go.Proofs.YtleejffjnknohaaGreat.R1
open Go.RowKit

theorem len_zero {ys : List Str} (h : ys = []) : ((ys.length : Int) == 0) = true := by subst h; rfl
theorem len_pos {ys : List Str} {y : Str} (h : ys[0]? = some y) : ((ys.length : Int) == 0) = false := by
  have := (List.getElem?_eq_some_iff.1 h).1
  rw [beq_eq_false_iff_ne]; omega
theorem pos_of {ys : List Str} {y : Str} (h : ys[0]? = some y) : 0 < ys.length := (List.getElem?_eq_some_iff.1 h).1

/-- A call that answers a string and a side. -/
def RetE (w : World) (x : Str) (k : Int) (e : Ending) (w' : World) : Prop := e = .returned (.tuple #[.string (S x), .int .i64 k]) ∧ ∃ n, w' = w.drewN n

set_option maxHeartbeats 1000000 in
theorem lowest_nil2 (A B : Option Addr) (c d : Nat) (xs : List Str) (x : Str) (w : World) (hl : Lies w A xs) (hx : xs[0]? = some x) :
    Calls Tryz.prog 122 #[.slice A xs.length c, .slice B 0 d] w (RetE w x 0) := by
  have hpos := pos_of hx
  obtain ⟨b, off, rfl, hb, hc⟩ := hl.get hpos
  have hcx : w.cell? ⟨b, off, none⟩ = some (.string (S x)) := hc 0 x hx
  clear hc hl hx
  go_enter Tryz.func122, Tryz.ntmps122
  go_wp2
  go_quiet (fail)
  go_wp2
  go_ret2
  exact ⟨rfl, _, rfl⟩

set_option maxHeartbeats 1000000 in
theorem lowest_lt (A B : Option Addr) (c d : Nat) (xs ys : List Str) (x y : Str) (w : World) (hl : Lies w A xs) (hm : Lies w B ys) (hx : xs[0]? = some x) (hy : ys[0]? = some y) (hlt : x < y) :
    Calls Tryz.prog 122 #[.slice A xs.length c, .slice B ys.length d] w (RetE w x 0) := by
  have hpos := pos_of hx
  have hpos' := pos_of hy
  have hz := len_pos hy
  obtain ⟨b, off, rfl, hb, hc⟩ := hl.get hpos
  obtain ⟨b', off', rfl, hb', hc'⟩ := hm.get hpos'
  have hcx : w.cell? ⟨b, off, none⟩ = some (.string (S x)) := hc 0 x hx
  have hcy : w.cell? ⟨b', off', none⟩ = some (.string (S y)) := hc' 0 y hy
  have hb1 := bl_true hlt
  have hd : decide (0 < xs.length) = true := decide_eq_true hpos
  clear hc hl hx hc' hm hy hlt
  go_enter Tryz.func122, Tryz.ntmps122
  go_wp2
  go_quiet (fail)
  go_wp2
  go_ret2
  exact ⟨rfl, _, rfl⟩

set_option maxHeartbeats 1000000 in
theorem lowest_nil1 (A B : Option Addr) (c d : Nat) (ys : List Str) (y : Str) (w : World) (hm : Lies w B ys) (hy : ys[0]? = some y) :
    Calls Tryz.prog 122 #[.slice A 0 c, .slice B ys.length d] w (RetE w y 1) := by
  have hpos' := pos_of hy
  have hz := len_pos hy
  obtain ⟨b', off', rfl, hb', hc'⟩ := hm.get hpos'
  have hcy : w.cell? ⟨b', off', none⟩ = some (.string (S y)) := hc' 0 y hy
  clear hc' hm hy
  go_enter Tryz.func122, Tryz.ntmps122
  go_wp2
  go_quiet (fail)
  go_wp2
  go_quiet (fail)
  go_wp2
  go_ret2
  exact ⟨rfl, _, rfl⟩

set_option maxHeartbeats 1000000 in
theorem lowest_gt (A B : Option Addr) (c d : Nat) (xs ys : List Str) (x y : Str) (w : World) (hl : Lies w A xs) (hm : Lies w B ys) (hx : xs[0]? = some x) (hy : ys[0]? = some y) (hlt : y < x) :
    Calls Tryz.prog 122 #[.slice A xs.length c, .slice B ys.length d] w (RetE w y 1) := by
  have hpos := pos_of hx
  have hpos' := pos_of hy
  have hz := len_pos hy
  have hz' := len_pos hx
  obtain ⟨b, off, rfl, hb, hc⟩ := hl.get hpos
  obtain ⟨b', off', rfl, hb', hc'⟩ := hm.get hpos'
  have hcx : w.cell? ⟨b, off, none⟩ = some (.string (S x)) := hc 0 x hx
  have hcy : w.cell? ⟨b', off', none⟩ = some (.string (S y)) := hc' 0 y hy
  have hb1 := bl_true hlt
  have hb2 := bl_false (str_asymm hlt)
  have hd : decide (0 < xs.length) = true := decide_eq_true hpos
  clear hc hl hx hc' hm hy hlt
  go_enter Tryz.func122, Tryz.ntmps122
  go_wp2
  go_quiet (fail)
  go_wp2
  go_quiet (fail)
  go_wp2
  go_ret2
  exact ⟨rfl, _, rfl⟩

set_option maxHeartbeats 1000000 in
theorem lowest_eq (A B : Option Addr) (c d : Nat) (xs ys : List Str) (x : Str) (w : World) (hl : Lies w A xs) (hm : Lies w B ys) (hx : xs[0]? = some x) (hy : ys[0]? = some x) :
    Calls Tryz.prog 122 #[.slice A xs.length c, .slice B ys.length d] w (RetE w x 2) := by
  have hpos := pos_of hx
  have hpos' := pos_of hy
  have hz := len_pos hy
  have hz' := len_pos hx
  obtain ⟨b, off, rfl, hb, hc⟩ := hl.get hpos
  obtain ⟨b', off', rfl, hb', hc'⟩ := hm.get hpos'
  have hcx : w.cell? ⟨b, off, none⟩ = some (.string (S x)) := hc 0 x hx
  have hcy : w.cell? ⟨b', off', none⟩ = some (.string (S x)) := hc' 0 x hy
  have hb2 := bl_false (str_irrefl x)
  have hd : decide (0 < xs.length) = true := decide_eq_true hpos
  clear hc hl hx hc' hm hy
  go_enter Tryz.func122, Tryz.ntmps122
  go_wp2
  go_quiet (fail)
  go_wp2
  go_quiet (fail)
  go_wp2
  go_ret2
  exact ⟨rfl, _, rfl⟩
end Go.Proofs.YtleejffjnknohaaGreat.R1

namespace Go.Proofs.YtleejffjnknohaaGreat.R1
open Go.RowKit Go.Shelf

attribute [local go_sem] Oper.semAt_some

/-- The strings lie below block n₀. -/
def Lies0 (n₀ : Nat) (w : World) (A : Option Addr) (xs : List Str) : Prop :=
  xs = [] ∨ ∃ b off, A = some ⟨b, off, none⟩ ∧ b < n₀ ∧ ∀ i x, xs[i]? = some x → w.cell? ⟨b, off + i, none⟩ = some (.string (S x))

theorem Lies.zero {w : World} {A : Option Addr} {xs : List Str} (h : Lies w A xs) : Lies0 w.heap.size w A xs := h
theorem Lies0.lies {n₀ : Nat} {w : World} {A : Option Addr} {xs : List Str} (h : Lies0 n₀ w A xs) (hn : n₀ ≤ w.heap.size) : Lies w A xs := by
  rcases h with h | ⟨b, off, hA, hb, h⟩
  · exact .inl h
  · exact .inr ⟨b, off, hA, Nat.lt_of_lt_of_le hb hn, h⟩
theorem Lies0.below {n₀ : Nat} {w w' : World} {A : Option Addr} {xs : List Str} (h : Lies0 n₀ w A xs) (hb : Below n₀ w w') : Lies0 n₀ w' A xs := by
  rcases h with h | ⟨b, off, hA, hlt, h⟩
  · exact .inl h
  · exact .inr ⟨b, off, hA, hlt, fun i x hx => (hb.cell (p := ⟨b, off + i, none⟩) hlt).trans (h i x hx)⟩
theorem Lies0.drewN {n₀ : Nat} {w : World} {A : Option Addr} {xs : List Str} (h : Lies0 n₀ w A xs) (n : Nat) : Lies0 n₀ (w.drewN n) A xs := h

/-- A slice without its first. -/
theorem Lies0.tail {n₀ : Nat} {w : World} {A : Option Addr} {x : Str} {xr : List Str} (h : Lies0 n₀ w A (x :: xr)) :
    ∃ b off, A = some ⟨b, off, none⟩ ∧ Lies0 n₀ w (some ⟨b, off + 1, none⟩) xr := by
  rcases h with h | ⟨b, off, hA, hlt, h⟩
  · cases h
  · refine ⟨b, off, hA, .inr ⟨b, off + 1, rfl, hlt, fun i y hy => ?_⟩⟩
    have := h (i + 1) y (by simpa using hy)
    rwa [show off + 1 + i = off + (i + 1) by omega]

theorem abides_drewN {J : List (Str × Int) → World → Prop} {B : Nat} (hJ : AbidesFrom B J) {pre : List (Str × Int)} {w : World} (n : Nat) (h : J pre w) : J pre (w.drewN n) :=
  hJ pre w (w.drewN n) none h ⟨rfl, rfl, rfl, Nat.le_refl _, fun _ _ _ => rfl⟩ (fun _ e => by cases e)

/-- How many are still to come: for the loop's measure. -/
def lenV : Value → Nat | .slice _ n _ => n | _ => 0

set_option maxRecDepth 100000 in
set_option maxHeartbeats 2000000 in
theorem beside1_in (n : Nat) (l Ba Bb n₀ : Nat) (A B : Option Addr) (c d : Nat) (xs ys : List Str) (J Jx : List (Str × Int) → World → Prop) (W : World) (hJ : AbidesFrom W.heap.size J)
    (hY : ∀ pre x W1, J pre W1 → pre.length < xs.length + ys.length → YieldAt Fence.wide (n - 1) Tryz.prog l #[.string (S x.1), .int .i64 x.2] W1 fun e W' =>
      (e = .returned (.bool true) ∧ J (pre ++ [x]) W' ∧ Below n₀ W1 W') ∨ (e = .returned (.bool false) ∧ Jx (pre ++ [x]) W'))
    (hn₀ : n₀ ≤ W.heap.size) (hBa : W.cell? ⟨Ba, 0, none⟩ = some (.slice A xs.length c)) (hBb : W.cell? ⟨Bb, 0, none⟩ = some (.slice B ys.length d)) (hc : xs.length ≤ c) (hd : ys.length ≤ d) (hcm : c ≤ maxLen) (hdm : d ≤ maxLen)
    (hl : Lies0 n₀ W A xs) (hm : Lies0 n₀ W B ys) (h0 : J [] W) :
    CallsIn Fence.wide n Tryz.prog 121 #[.func (.yield l) #[] #[], .pointer (some ⟨Ba, 0, none⟩), .pointer (some ⟨Bb, 0, none⟩)] W fun e W' => (∃ v, e = .returned v) ∧
      ((∃ zs, zs = be xs ys ∧ J zs W') ∨ (∃ pre, pre <+: be xs ys ∧ Jx pre W')) := by
  unfold maxLen at hcm hdm
  refine callsIn_of_wp Tryz.func121 rfl trivial ?_ rfl
  simp only [Tryz.ntmps121, List.size_toArray, List.length_cons, List.length_nil, Nat.reduceAdd, Nat.reduceSub, Array.replicate_succ, Array.replicate_zero, List.push_toArray, List.append_toArray, List.nil_append, List.cons_append]
  gi_wp2
  gi_quiet (fail)
  gi_wp2
  gi_loopw [4, 5] (fun u v wr => ∃ (pre : List (Str × Int)) (xr yr : List Str) (A' B' : Option Addr) (c' d' : Nat), u = .slice A' xr.length c' ∧ v = .slice B' yr.length d' ∧ xr.length ≤ c' ∧ c' ≤ 2 ^ 63 - 1 ∧ yr.length ≤ d' ∧ d' ≤ 2 ^ 63 - 1 ∧ Lies0 n₀ wr A' xr ∧ Lies0 n₀ wr B' yr ∧ Hid (be xs ys = pre ++ be xr yr) ∧ J pre wr ∧ n₀ ≤ wr.heap.size)
    (fun u v _ => lenV u + lenV v)
  case atStart => exact ⟨[], xs, ys, A, B, c, d, rfl, rfl, hc, hcm, hd, hdm, hl, hm, rfl, abides_drewN hJ _ h0, hn₀⟩
  case round =>
    obtain ⟨pre, xr, yr, A', B', c', d', rfl, rfl, hc1, hc2, hd1, hd2, hl1, hm1, h1, hJ1, hn1⟩ := hrel
    clear hBa hBb hl hm h0 hc hd hcm hdm
    have hplen : ∀ x r, be xr yr = x :: r → pre.length < xs.length + ys.length := by
      intro x r e
      have := be_len xs ys
      rw [h1.out, e] at this
      simp at this
      omega
    cases xr with
    | nil =>
      cases yr with
      | nil =>
        gi_wp2
        go_end0
        exact ⟨⟨_, rfl⟩, .inl ⟨pre, by rw [h1.out, be_nil]; simp, hJ1⟩⟩
      | cons y yr =>
        have hpl := hplen _ _ (be_right y yr)
        have H1 : Hid (be xs ys = (pre ++ [(y, 1)]) ++ be [] yr) := by
          show be xs ys = _
          rw [h1.out, show _ = _ from (be_right y yr)]; simp
        clear hplen h1
        obtain ⟨b', off', rfl, ht'⟩ := hm1.tail
        have q2 : yr.length + 1 ≤ d' := hd1
        gi_wp2_with fail
        refine ⟨trivial, fun h => absurd h (by simp [Fence.wide]), (callsIn_wide.2 (lowest_nil1 A' _ c' d' (y :: yr) y wr (hm1.lies hn1) rfl)).mono ?_⟩
        rintro e w' ⟨rfl, q, rfl⟩
        obtain ⟨fn, tmps, assign, body, hy, hR⟩ := hY pre (y, 1) (wr.drewN q) (abides_drewN hJ q hJ1) hpl
        dsimp only at hy
        clear hY
        by_cases hdd : d' = 1
        all_goals
          gi_wp2
          refine ⟨fun h => absurd h (by simp [Fence.wide]), hR.mono ?_⟩
          rintro e W3 (⟨rfl, hJ3, hk3⟩ | ⟨rfl, hJx3⟩)
          · gi_wp2
            go_roundw
            case rel =>
              refine ⟨pre ++ [(y, 1)], [], yr, _, _, _, _, rfl, rfl, ?_, ?_, ?_, ?_, ?_, ?_, H1, hJ3, Nat.le_trans hn1 hk3.size⟩
              all_goals first
                | exact (Or.inl rfl)
                | exact (ht'.drewN q).below hk3
                | (refine Or.inl (List.eq_nil_of_length_eq_zero ?_); omega)
                | (simp only [List.length_nil]; omega)
                | (simp only [List.length_cons]; omega)
                | omega
            case measure => first | (simp [lenV]; done) | (simp [lenV]; omega)
          · gi_wp2
            refine bodyPost_ret (results_none rfl _ _ _) rfl ?_
            exact ⟨⟨_, rfl⟩, .inr ⟨pre ++ [(y, 1)], ⟨_, H1.out.symm⟩, hJx3⟩⟩
    | cons x xr =>
      cases yr with
      | nil =>
        have hpl := hplen _ _ (be_left x xr)
        have H1 : Hid (be xs ys = (pre ++ [(x, 0)]) ++ be xr []) := by
          show be xs ys = _
          rw [h1.out, show _ = _ from (be_left x xr)]; simp
        clear hplen h1
        obtain ⟨b, off, rfl, ht⟩ := hl1.tail
        have q1 : xr.length + 1 ≤ c' := hc1
        gi_wp2_with fail
        refine ⟨trivial, fun h => absurd h (by simp [Fence.wide]), (callsIn_wide.2 (lowest_nil2 _ B' c' d' (x :: xr) x wr (hl1.lies hn1) rfl)).mono ?_⟩
        rintro e w' ⟨rfl, q, rfl⟩
        obtain ⟨fn, tmps, assign, body, hy, hR⟩ := hY pre (x, 0) (wr.drewN q) (abides_drewN hJ q hJ1) hpl
        dsimp only at hy
        clear hY
        by_cases hcc : c' = 1
        all_goals
          gi_wp2
          refine ⟨fun h => absurd h (by simp [Fence.wide]), hR.mono ?_⟩
          rintro e W3 (⟨rfl, hJ3, hk3⟩ | ⟨rfl, hJx3⟩)
          · gi_wp2
            go_roundw
            case rel =>
              refine ⟨pre ++ [(x, 0)], xr, [], _, _, _, _, rfl, rfl, ?_, ?_, ?_, ?_, ?_, ?_, H1, hJ3, Nat.le_trans hn1 hk3.size⟩
              all_goals first
                | exact (Or.inl rfl)
                | exact (ht.drewN q).below hk3
                | (refine Or.inl (List.eq_nil_of_length_eq_zero ?_); omega)
                | (simp only [List.length_nil]; omega)
                | (simp only [List.length_cons]; omega)
                | omega
            case measure => first | (simp [lenV]; done) | (simp [lenV]; omega)
          · gi_wp2
            refine bodyPost_ret (results_none rfl _ _ _) rfl ?_
            exact ⟨⟨_, rfl⟩, .inr ⟨pre ++ [(x, 0)], ⟨_, H1.out.symm⟩, hJx3⟩⟩
      | cons y yr =>
        rcases str_tri x y with hxy | hxy | hxy
        · have hpl := hplen _ _ (be_lt xr yr hxy)
          have H1 : Hid (be xs ys = (pre ++ [(x, 0)]) ++ be xr (y :: yr)) := by
            show be xs ys = _
            rw [h1.out, show _ = _ from (be_lt xr yr hxy)]; simp
          clear hplen h1
          obtain ⟨b, off, rfl, ht⟩ := hl1.tail
          have q1 : xr.length + 1 ≤ c' := hc1
          obtain ⟨b', off', rfl, ht'⟩ := hm1.tail
          have q2 : yr.length + 1 ≤ d' := hd1
          have HXY := Lib.hid hxy
          clear hxy ht'
          gi_wp2_with fail
          refine ⟨trivial, fun h => absurd h (by simp [Fence.wide]), (callsIn_wide.2 (lowest_lt _ _ c' d' (x :: xr) (y :: yr) x y wr (hl1.lies hn1) (hm1.lies hn1) rfl rfl HXY.out)).mono ?_⟩
          rintro e w' ⟨rfl, q, rfl⟩
          obtain ⟨fn, tmps, assign, body, hy, hR⟩ := hY pre (x, 0) (wr.drewN q) (abides_drewN hJ q hJ1) hpl
          dsimp only at hy
          clear hY
          by_cases hcc : c' = 1
          all_goals
            gi_wp2
            refine ⟨fun h => absurd h (by simp [Fence.wide]), hR.mono ?_⟩
            rintro e W3 (⟨rfl, hJ3, hk3⟩ | ⟨rfl, hJx3⟩)
            · gi_wp2
              go_roundw
              case rel =>
                refine ⟨pre ++ [(x, 0)], xr, (y :: yr), _, _, _, _, rfl, rfl, ?_, ?_, ?_, ?_, ?_, ?_, H1, hJ3, Nat.le_trans hn1 hk3.size⟩
                all_goals first
                  | exact (hm1.drewN q).below hk3
                  | exact (ht.drewN q).below hk3
                  | (refine Or.inl (List.eq_nil_of_length_eq_zero ?_); omega)
                  | (simp only [List.length_nil]; omega)
                  | (simp only [List.length_cons]; omega)
                  | omega
              case measure => first | (simp [lenV]; done) | (simp [lenV]; omega)
            · gi_wp2
              refine bodyPost_ret (results_none rfl _ _ _) rfl ?_
              exact ⟨⟨_, rfl⟩, .inr ⟨pre ++ [(x, 0)], ⟨_, H1.out.symm⟩, hJx3⟩⟩
        · subst hxy
          have hpl := hplen _ _ (be_eq x xr yr)
          have H1 : Hid (be xs ys = (pre ++ [(x, 2)]) ++ be xr yr) := by
            show be xs ys = _
            rw [h1.out, show _ = _ from (be_eq x xr yr)]; simp
          clear hplen h1
          obtain ⟨b, off, rfl, ht⟩ := hl1.tail
          have q1 : xr.length + 1 ≤ c' := hc1
          obtain ⟨b', off', rfl, ht'⟩ := hm1.tail
          have q2 : yr.length + 1 ≤ d' := hd1
          gi_wp2_with fail
          refine ⟨trivial, fun h => absurd h (by simp [Fence.wide]), (callsIn_wide.2 (lowest_eq _ _ c' d' (x :: xr) (x :: yr) x wr (hl1.lies hn1) (hm1.lies hn1) rfl rfl)).mono ?_⟩
          rintro e w' ⟨rfl, q, rfl⟩
          obtain ⟨fn, tmps, assign, body, hy, hR⟩ := hY pre (x, 2) (wr.drewN q) (abides_drewN hJ q hJ1) hpl
          dsimp only at hy
          clear hY
          by_cases hcc : c' = 1 <;> by_cases hdd : d' = 1
          all_goals
            gi_wp2
            refine ⟨fun h => absurd h (by simp [Fence.wide]), hR.mono ?_⟩
            rintro e W3 (⟨rfl, hJ3, hk3⟩ | ⟨rfl, hJx3⟩)
            · gi_wp2
              go_roundw
              case rel =>
                refine ⟨pre ++ [(x, 2)], xr, yr, _, _, _, _, rfl, rfl, ?_, ?_, ?_, ?_, ?_, ?_, H1, hJ3, Nat.le_trans hn1 hk3.size⟩
                all_goals first
                  | exact (ht.drewN q).below hk3
                  | (refine Or.inl (List.eq_nil_of_length_eq_zero ?_); omega)
                  | exact (ht'.drewN q).below hk3
                  | (refine Or.inl (List.eq_nil_of_length_eq_zero ?_); omega)
                  | (simp only [List.length_nil]; omega)
                  | (simp only [List.length_cons]; omega)
                  | omega
              case measure => first | (simp [lenV]; done) | (simp [lenV]; omega)
            · gi_wp2
              refine bodyPost_ret (results_none rfl _ _ _) rfl ?_
              exact ⟨⟨_, rfl⟩, .inr ⟨pre ++ [(x, 2)], ⟨_, H1.out.symm⟩, hJx3⟩⟩
        · have hpl := hplen _ _ (be_gt xr yr hxy)
          have H1 : Hid (be xs ys = (pre ++ [(y, 1)]) ++ be (x :: xr) yr) := by
            show be xs ys = _
            rw [h1.out, show _ = _ from (be_gt xr yr hxy)]; simp
          clear hplen h1
          obtain ⟨b, off, rfl, ht⟩ := hl1.tail
          have q1 : xr.length + 1 ≤ c' := hc1
          obtain ⟨b', off', rfl, ht'⟩ := hm1.tail
          have q2 : yr.length + 1 ≤ d' := hd1
          have HXY := Lib.hid hxy
          clear hxy ht
          gi_wp2_with fail
          refine ⟨trivial, fun h => absurd h (by simp [Fence.wide]), (callsIn_wide.2 (lowest_gt _ _ c' d' (x :: xr) (y :: yr) x y wr (hl1.lies hn1) (hm1.lies hn1) rfl rfl HXY.out)).mono ?_⟩
          rintro e w' ⟨rfl, q, rfl⟩
          obtain ⟨fn, tmps, assign, body, hy, hR⟩ := hY pre (y, 1) (wr.drewN q) (abides_drewN hJ q hJ1) hpl
          dsimp only at hy
          clear hY
          by_cases hdd : d' = 1
          all_goals
            gi_wp2
            refine ⟨fun h => absurd h (by simp [Fence.wide]), hR.mono ?_⟩
            rintro e W3 (⟨rfl, hJ3, hk3⟩ | ⟨rfl, hJx3⟩)
            · gi_wp2
              go_roundw
              case rel =>
                refine ⟨pre ++ [(y, 1)], (x :: xr), yr, _, _, _, _, rfl, rfl, ?_, ?_, ?_, ?_, ?_, ?_, H1, hJ3, Nat.le_trans hn1 hk3.size⟩
                all_goals first
                  | exact (hl1.drewN q).below hk3
                  | exact (ht'.drewN q).below hk3
                  | (refine Or.inl (List.eq_nil_of_length_eq_zero ?_); omega)
                  | (simp only [List.length_nil]; omega)
                  | (simp only [List.length_cons]; omega)
                  | omega
              case measure => first | (simp [lenV]; done) | (simp [lenV]; omega)
            · gi_wp2
              refine bodyPost_ret (results_none rfl _ _ _) rfl ?_
              exact ⟨⟨_, rfl⟩, .inr ⟨pre ++ [(y, 1)], ⟨_, H1.out.symm⟩, hJx3⟩⟩
end Go.Proofs.YtleejffjnknohaaGreat.R1
