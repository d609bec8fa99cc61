/- What join.joinCauses does, if join does what it should for what is inside. What cmp.Compare of texts, slices.Compare of texts, cmp.Or of three, join.byWriter do. No condition but that what they take lies in memory. -/
import Derived.Test.YtdbohojncbeajaaGreatMo16
namespace Go.Proofs.YtdbohojncbeajaaGreat.J5
open Go.RowKit Go.Shelf
open C3 (Tk In Asc cmpC belAl allocB OwnT)
open V4 (Va Vl Ck LiesC cellsC cellsV cellsC_len InC val_mk er_mk)

theorem retTT_case {Z : World} {o : Option (List (Ck × Va))} {e : Ending} {U : World} (h : RetTT Z o e U) : ∃ (A : Option Addr) (k0 c : Nat) (A2 : Option Addr) (c2 : Nat) (ev : Value) (out : List (Ck × Vl)), e = .returned (.tuple #[.agg #[.slice A k0 c, .slice A2 k0 c2], ev]) ∧ Hd encT 44 Z.heap.size (fun _ => True) (.slice A k0 c) (.slice A2 k0 c2) out U ∧ out.length = k0 ∧ k0 ≤ 40 ∧ Below Z.heap.size Z U ∧ ((o = some (out.map er2T) ∧ ev = .nilIface) ∨ (o = none ∧ out = [] ∧ ev = errV 13 ∧ A = none ∧ c = 0 ∧ A2 = none ∧ c2 = 0 ∧ k0 = 0)) := by
  rcases h with ⟨vm, vv, out, ho, rfl, hH, hl, hb⟩ | ⟨ho, rfl, hb⟩
  · obtain ⟨A, c, rfl, _⟩ := row_form hH.rm
    obtain ⟨A2, c2, rfl, _⟩ := row_form hH.rv
    exact ⟨A, _, c, A2, c2, _, out, rfl, hH, rfl, hl, hb, .inl ⟨ho, rfl⟩⟩
  · exact ⟨none, 0, 0, none, 0, _, [], rfl, Hd.nil _ _ _, rfl, Nat.zero_le _, hb, .inr ⟨ho, rfl, rfl, rfl, rfl, rfl, rfl, rfl⟩⟩

set_option maxRecDepth 100000 in
set_option maxHeartbeats 8000000 in
theorem joinCauses_any (s : S2.Sc) (x y : Vl) (f : Va → Va → Option Va) (w : World) (hx : x.In w) (hy : y.In w) (lx : x.er.c.length = x.vs.length) (ly : y.er.c.length = y.vs.length) (n0 : x.vs.length ≤ 1000) (n1 : y.vs.length ≤ 1000)
    (hck : ∀ k ∈ x.er.c ++ y.er.c, Asc k ∧ k.length ≤ 1000)
    (hj : ∀ u v : Vl, (u ∈ x.vs ∨ u = vlZ) → (v ∈ y.vs ∨ v = vlZ) → ∀ W : World, Below w.heap.size w W → Calls Tryz.prog 31 #[s.val, u.val, v.val] W (RetJ W (f u.er v.er))) :
    Calls Tryz.prog 49 #[s.val, x.val, y.val] w (RetJ w (causeE f x.er y.er)) := by
  obtain ⟨sk, sA0, sc0, sl⟩ := s
  obtain ⟨n, m, sA, sc, ss, cA, cc, cs, vA, vc, vs⟩ := x
  obtain ⟨n', m', sA', sc', ss', cA', cc', cs', vA', vc', vs'⟩ := y
  rw [causeE_er]
  rw [er_mk] at lx ly hck
  rw [er_mk] at hck
  simp only [Va.c, V4.Vl.vs, List.length_map] at lx ly n0 n1 hj
  have HCK : Hid (∀ k ∈ cs ++ cs', InC w k ∧ Asc k.l ∧ k.l.length ≤ 1000) := fun k hk => by
    have h2 := hck k.l (by simp only [Va.c]; rw [← List.map_append]; exact List.mem_map.2 ⟨k, hk, rfl⟩)
    refine ⟨?_, h2⟩
    rcases List.mem_append.1 hk with hk | hk
    · cases hx with | mk _ _ _ _ _ _ _ _ _ _ _ _ _ _ _ _ _ _ b3 _ _ _ => exact b3 k hk
    · cases hy with | mk _ _ _ _ _ _ _ _ _ _ _ _ _ _ _ _ _ _ b3 _ _ _ => exact b3 k hk
  have HLC : Hid (LiesC (fun b => b < w.heap.size) w cA (cellsC cs) ∧ LiesC (fun b => b < w.heap.size) w cA' (cellsC cs')) := by
    constructor
    · cases hx with | mk _ _ _ _ _ _ _ _ _ _ _ _ _ _ _ _ b1 _ _ _ _ _ => exact b1
    · cases hy with | mk _ _ _ _ _ _ _ _ _ _ _ _ _ _ _ _ b1 _ _ _ _ _ => exact b1
  have HBS := Lib.hid (fun W h1 h2 => besideT_any (.mk cA cc vA vc (cs.zip vs)) (.mk cA' cc' vA' vc' (cs'.zip vs')) W h1 h2)
  rw [lnT_val _ _ _ _ lx, lnT_val _ _ _ _ ly] at HBS
  obtain ⟨zs, hzs⟩ : ∃ zs, mix cmpTT vlZ (cs.zip vs) (cs'.zip vs') = zs := ⟨_, rfl⟩
  have HLI := Lib.hid (lnT_in hx lx)
  have HKI := Lib.hid (lnT_in hy ly)
  have HM : Hid (∀ p ∈ zs, (p.2.1 ∈ vs ∨ p.2.1 = vlZ) ∧ (p.2.2 ∈ vs' ∨ p.2.2 = vlZ) ∧ p.1 ∈ cs ++ cs') := fun p hp => by
    obtain ⟨h1, h2, h3⟩ := mix_mem cmpTT vlZ _ _ (hzs ▸ hp)
    exact ⟨h1.imp (fun ⟨q, hq, e⟩ => e ▸ (List.of_mem_zip hq).2) id, h2.imp (fun ⟨q, hq, e⟩ => e ▸ (List.of_mem_zip hq).2) id, List.mem_append.2 (h3.imp (fun ⟨q, hq, e⟩ => e ▸ (List.of_mem_zip hq).1) (fun ⟨q, hq, e⟩ => e ▸ (List.of_mem_zip hq).1))⟩
  have HJ := Lib.hid hj
  have HN := Lib.hid (And.intro (lx ▸ n0) (ly ▸ n1))
  rw [hzs] at HBS ⊢
  clear hzs hj hx hy lx ly n0 n1 hck
  simp only [S2.Sc.val, val_mk] at HJ ⊢
  obtain ⟨V, hV⟩ : ∃ V, (((w.alloc (.cells #[.int .i64 sk, .slice sA0 sl.length sc0] 37)).alloc (.cells #[.int .u64 n, .int .u64 m, .slice sA ss.length sc, .slice cA cs.length cc, .slice vA vs.length vc] 29)).alloc (.cells #[.int .u64 n', .int .u64 m', .slice sA' ss'.length sc', .slice cA' cs'.length cc', .slice vA' vs'.length vc'] 29)).alloc (.cells #[.int .u64 0, .int .u64 0, .slice none 0 0, .slice none 0 0, .slice none 0 0] 29) = V := ⟨_, rfl⟩
  obtain ⟨q3, q4, q5, q6, hbV, hsV⟩ := blk4 hV
  have e0 : V.cell? ⟨w.heap.size + 1, 3, none⟩ = some (.slice cA cs.length cc) := blk_cell q4 3 _ rfl
  have e1 : V.cell? ⟨w.heap.size + 1, 4, none⟩ = some (.slice vA vs.length vc) := blk_cell q4 4 _ rfl
  have e2 : V.cell? ⟨w.heap.size + 1 + 1, 3, none⟩ = some (.slice cA' cs'.length cc') := blk_cell q5 3 _ rfl
  have e3 : V.cell? ⟨w.heap.size + 1 + 1, 4, none⟩ = some (.slice vA' vs'.length vc') := blk_cell q5 4 _ rfl
  have HLV := Lib.hid ((HLI.out.keep hbV).mono (N' := V.heap.size) (by omega))
  have HKV := Lib.hid ((HKI.out.keep hbV).mono (N' := V.heap.size) (by omega))
  clear HLI HKI
  go_enter Tryz.func49, Tryz.ntmps49
  go_wp2_with fail
  refine (HBS.out V HLV.out HKV.out).mono ?_
  rintro e W ⟨b1, b2, b3, rfl, hb1, hseq⟩
  have HSQ := Lib.hid hseq
  have hbW : Below w.heap.size w W := hbV.trans (hb1.mono (by omega))
  have q3W := q3.below hb1
  have q6W := q6.below hb1
  have f0 : W.cell? ⟨w.heap.size + 1, 3, none⟩ = some (.slice cA cs.length cc) := blk_cell (q4.below hb1) 3 _ rfl
  have f2 : W.cell? ⟨w.heap.size + 1 + 1, 3, none⟩ = some (.slice cA' cs'.length cc') := blk_cell (q5.below hb1) 3 _ rfl
  clear e0 e1 e2 e3 hseq HBS HLV HKV q3 q4 q5 q6
  have hsW := hb1.size
  obtain ⟨V2, hV2⟩ : ∃ V2, W.alloc (.cells #[.slice cA cs.length cc, .slice cA' cs'.length cc'] 26) = V2 := ⟨_, rfl⟩
  have hbV2 : Below W.heap.size W V2 := by rw [← hV2]; exact allocB _ _
  have q7 : Blk V2 W.heap.size 26 #[.slice cA cs.length cc, .slice cA' cs'.length cc'] := by rw [← hV2]; exact Blk.new _ _ _
  have hbwV2 : Below w.heap.size w V2 := hbW.trans (hbV2.mono hbW.size)
  go_wp2_with fail
  refine (concat_any W.heap.size 2 cA cc cs cA' cc' cs' V2 (blk_cell q7 0 _ rfl) (blk_cell q7 1 _ rfl) ((HLC.out.1.below hbwV2).mono fun _ h => Nat.lt_of_lt_of_le h hbwV2.size) ((HLC.out.2.below hbwV2).mono fun _ h => Nat.lt_of_lt_of_le h hbwV2.size) HN.out.1 HN.out.2).mono ?_
  rintro e W3 ⟨v3, rfl, hown3, hb3⟩
  obtain ⟨A3, c3, rfl, _⟩ := row_form hown3
  have HR := Lib.hid (row_lies hown3)
  have hlen : (cs ++ cs').length ≤ 2000 := by rw [List.length_append]; have := HN.out.1; have := HN.out.2; omega
  obtain ⟨n3, hn3⟩ : ∃ n3, (cs ++ cs').length = n3 := ⟨_, rfl⟩
  rw [hn3] at hlen HR
  rw [hn3]
  have HN3 := Lib.hid hn3
  have hbW3 : Below W.heap.size W W3 := hbV2.trans (hb3.mono hbV2.size)
  have q3U := q3W.below hbW3
  have q6U := q6W.below hbW3
  clear hn3 hown3 q7 hV2 hbV2 hbwV2 hb3 q3W q6W f0 f2
  obtain ⟨Vq, hVq⟩ : ∃ Vq, W3.alloc (.cells #[.slice A3 n3 c3] 26) = Vq := ⟨_, rfl⟩
  have hbVq : Below W3.heap.size W3 Vq := by rw [← hVq]; exact allocB _ _
  have q9 : Blk Vq W3.heap.size 26 #[.slice A3 n3 c3] := by rw [← hVq]; exact Blk.new _ _ _
  have q3 := q3U.below hbVq
  have q6 := q6U.below hbVq
  have g0 : Vq.cell? ⟨w.heap.size, 0, none⟩ = some (.int .i64 sk) := blk_cell q3 0 _ rfl
  have g1 : Vq.cell? ⟨w.heap.size, 1, none⟩ = some (.slice sA0 sl.length sc0) := blk_cell q3 1 _ rfl
  clear q3U q6U
  have hbwQ : Below w.heap.size w Vq := (hbW.trans (hbW3.mono hbW.size)).trans (hbVq.mono (Nat.le_trans hbW.size hbW3.size))
  have hbWQ : Below W.heap.size W Vq := hbW3.trans (hbVq.mono hbW3.size)
  have HT : Hid (∀ (Z : World) (Ba Bi : Nat), Below Vq.heap.size Vq Z → Blk Z Ba 128 #[.func (.func 97) #[] #[.pointer (some ⟨b1, 0, none⟩), .pointer (some ⟨b2, 0, none⟩), .pointer (some ⟨b3, 0, none⟩)]] → Blk Z Bi 138 #[.func (.func 74) #[] #[.pointer (some ⟨W3.heap.size, 0, none⟩)]] →
      Calls Tryz.prog 72 #[.agg #[.int .i64 sk, .slice sA0 sl.length sc0], .func (.func 102) #[] #[.pointer (some ⟨Ba, 0, none⟩), .pointer (some ⟨Bi, 0, none⟩)]] Z (RetTT Z (togE f ((zs.filter fun p => !(cs ++ cs').any (seenC p.1)).map er3T)))) := by
    intro Z Ba Bi hZ ha hi
    have hWZ : Below W.heap.size W Z := hbWQ.trans (hZ.mono hbWQ.size)
    have hwZ : Below w.heap.size w Z := hbwQ.trans (hZ.mono hbwQ.size)
    refine togetherT_any (.mk sk sA0 sc0 sl) _ f _ Z (without1_seq Ba Bi W3.heap.size b1 b2 b3 (fun x => (cs ++ cs').any (seenC x.1)) zs Z.heap.size Z (Nat.le_refl _) (HSQ.out _ Z hWZ hWZ.size (Nat.le_refl _)) ?_ ha hi hi.lt) ?_
    · intro x hxz W' hW' hs'
      have ag : ∀ b, b < Vq.heap.size → W'.heap[b]? = Vq.heap[b]? := fun b hb => (hW' b (Nat.lt_of_lt_of_le hb hZ.size)).trans (hZ.block b hb)
      have inc : ∀ k ∈ cs ++ cs', InC W' k ∧ Asc k.l ∧ k.l.length ≤ 1000 := fun k hk =>
        ⟨((HCK.out k hk).1.keep fun b hb => (ag b (Nat.lt_of_lt_of_le hb hbwQ.size)).trans (hbwQ.block b hb)).mono fun b hb => Nat.lt_of_lt_of_le (Nat.lt_of_lt_of_le hb hwZ.size) hs', (HCK.out k hk).2⟩
      have hm := inc x.1 (HM.out x hxz).2.2
      refine question_any x W3.heap.size A3 c3 (cs ++ cs') W' hm.1 hm.2.1 hm.2.2 ((HR.out.1.keep fun b hb => (ag b (Nat.lt_of_lt_of_le hb.2 hbVq.size)).trans (hbVq.block b hb.2)).mono fun b hb => Nat.lt_of_lt_of_le (Nat.lt_of_lt_of_le (Nat.lt_of_lt_of_le hb.2 hbVq.size) hZ.size) hs') ?_ inc ?_
      · have := HN3.out; unfold maxLen; omega
      · have hq : Blk W' W3.heap.size 26 #[.slice A3 n3 c3] := (ag _ q9.lt).trans q9
        rw [HN3.out]
        exact blk_cell hq 0 _ rfl
    · intro x hx W' hW'
      have hm := HM.out x (List.mem_filter.1 hx).1
      exact HJ.out _ _ hm.1 hm.2.1 W' (hwZ.trans (hW'.mono hwZ.size))
  have HE := Lib.hid (And.intro hbwQ (And.intro q3 q6))
  have hw3 : w.heap.size + 1 + 1 + 1 < Vq.heap.size := q6.lt
  clear HSQ HR HN3 HLC q9 hbWQ hbVq hbW3 hV hbV hsV hbW hb1 hsW HJ q3 q6
  go_wp2_with fail
  clear hVq
  refine Code.wp_mono (Q := fun e a' X => e = .normal ∧ ∃ (Ba Bi D k0 : Nat) (A : Option Addr) (c : Nat) (A2 : Option Addr) (c2 : Nat) (ev : Value) (base : Nat) (out : List (Ck × Vl)), a' = ⟨#[.agg #[.int .i64 sk, .slice sA0 sl.length sc0], .agg #[.int .u64 n, .int .u64 m, .slice sA ss.length sc, .slice cA cs.length cc, .slice vA vs.length vc], .agg #[.int .u64 n', .int .u64 m', .slice sA' ss'.length sc', .slice cA' cs'.length cc', .slice vA' vs'.length vc'], .pointer (some ⟨w.heap.size, 0, none⟩), .pointer (some ⟨w.heap.size + 1, 0, none⟩), .pointer (some ⟨w.heap.size + 1 + 1, 0, none⟩), .pointer (some ⟨w.heap.size + 1 + 1 + 1, 0, none⟩), .nilIface, .func (.func 97) #[] #[.pointer (some ⟨b1, 0, none⟩), .pointer (some ⟨b2, 0, none⟩), .pointer (some ⟨b3, 0, none⟩)], .pointer (some ⟨W3.heap.size, 0, none⟩), .pointer (some ⟨D, 0, none⟩), ev, undef, undef, .pointer (some ⟨w.heap.size + 1, 3, none⟩), .slice cA cs.length cc, .pointer (some ⟨w.heap.size + 1, 4, none⟩), .slice vA vs.length vc, .agg #[.slice cA cs.length cc, .slice vA vs.length vc], .pointer (some ⟨w.heap.size + 1 + 1, 3, none⟩), .slice cA' cs'.length cc', .pointer (some ⟨w.heap.size + 1 + 1, 4, none⟩), .slice vA' vs'.length vc', .agg #[.slice cA' cs'.length cc', .slice vA' vs'.length vc'], .func (.func 97) #[] #[.pointer (some ⟨b1, 0, none⟩), .pointer (some ⟨b2, 0, none⟩), .pointer (some ⟨b3, 0, none⟩)], .pointer (some ⟨w.heap.size + 1, 3, none⟩), .slice cA cs.length cc, .pointer (some ⟨w.heap.size + 1 + 1, 3, none⟩), .slice cA' cs'.length cc', .slice (some ⟨W.heap.size, 0, none⟩) 2 2, .slice A3 n3 c3, .tuple #[.agg #[.slice A k0 c, .slice A2 k0 c2], ev], .agg #[.int .i64 sk, .slice sA0 sl.length sc0], .func (.func 97) #[] #[.pointer (some ⟨b1, 0, none⟩), .pointer (some ⟨b2, 0, none⟩), .pointer (some ⟨b3, 0, none⟩)], .func (.func 74) #[] #[.pointer (some ⟨W3.heap.size, 0, none⟩)], .func (.func 102) #[] #[.pointer (some ⟨Ba, 0, none⟩), .pointer (some ⟨Bi, 0, none⟩)], .tuple #[.agg #[.slice A k0 c, .slice A2 k0 c2], ev], .agg #[.slice A k0 c, .slice A2 k0 c2], ev, undef, undef, undef, undef, undef, undef, undef, undef, undef, undef, undef, undef, undef, undef, undef, undef, undef, undef, undef, undef, undef], []⟩ ∧
      Blk X D 130 #[.slice A k0 c, .slice A2 k0 c2] ∧ Blk X (w.heap.size + 1 + 1 + 1) 29 #[.int .u64 0, .int .u64 0, .slice none 0 0, .slice none 0 0, .slice none 0 0] ∧ Hd encT 44 base (fun _ => True) (.slice A k0 c) (.slice A2 k0 c2) out X ∧ w.heap.size + 1 + 1 + 1 < base ∧ w.heap.size < D ∧ out.length = k0 ∧ k0 ≤ 40 ∧ Below w.heap.size w X ∧
      ((togE f ((zs.filter fun p => !(cs ++ cs').any (seenC p.1)).map er3T) = some (out.map er2T) ∧ ev = .nilIface) ∨ (togE f ((zs.filter fun p => !(cs ++ cs').any (seenC p.1)).map er3T) = none ∧ out = [] ∧ ev = errV 13 ∧ A = none ∧ c = 0 ∧ A2 = none ∧ c2 = 0 ∧ k0 = 0))) ?_ ?_
  · rintro e a' X ⟨rfl, Ba, Bi, D, k0, A, c, A2, c2, ev, base, out, rfl, hD, hQ, hH, hbase, hDw, hk0, hk40, hbX, hcase⟩
    clear HT HE hbwQ hw3 g0 g1
    have HMK : Hid (∀ k ∈ out.map (·.1), InC w k ∧ k.l.length ≤ 1000) := fun k hk => by
      rcases hcase with ⟨h1, _⟩ | ⟨_, h1, _⟩
      · have h2 := togE_marks h1
        have h3 : k ∈ (out.map er2T).map (·.1) := by rw [List.map_map]; exact hk
        rw [h2, List.map_map] at h3
        obtain ⟨q, hq, rfl⟩ := List.mem_map.1 h3
        have h4 := HCK.out _ (HM.out q (List.mem_filter.1 hq).1).2.2
        exact ⟨h4.1, h4.2.2⟩
      · rw [h1] at hk; cases hk
    have HCS := Lib.hid hcase
    have HK := Lib.hid (And.intro (Mks.start hH) hk0)
    have HQ := Lib.hid (And.intro hD (And.intro hQ hbX))
    have HB := Lib.hid hbase
    clear hcase hH hk0 hbase HCK HM
    have d0 : X.cell? ⟨D, 0, none⟩ = some (.slice A k0 c) := blk_cell hD 0 _ rfl
    clear hD hQ hbX
    dsimp only
    go_wp2_with fail
    go_loopw [42] (fun iv wr => ∃ (i : Nat) (ms : List Ck), i ≤ k0 ∧ iv = .int .i64 i ∧ Hid (Mks base i (.slice A k0 c) (.slice A2 k0 c2) ms (out.map (·.2)) wr) ∧ Hid (ms.length = k0 ∧ ms.map Ck.l = out.map (·.1.l) ∧ ∀ j, i ≤ j → ms[j]? = (out.map (·.1))[j]?) ∧ Hid (Blk wr D 130 #[.slice A k0 c, .slice A2 k0 c2] ∧ Blk wr (w.heap.size + 1 + 1 + 1) 29 #[.int .u64 0, .int .u64 0, .slice none 0 0, .slice none 0 0, .slice none 0 0] ∧ Below w.heap.size w wr)) (fun iv _ => k0 - (intOf iv).toNat)
    case atStart => exact ⟨0, _, Nat.zero_le _, rfl, HK.out.1, ⟨by rw [List.length_map]; exact HK.out.2, by rw [List.map_map]; rfl, fun _ _ => rfl⟩, HQ.out⟩
    case round =>
      obtain ⟨i, ms, hik, rfl, hM, hms, hbl⟩ := hrel
      by_cases hlt : i < k0
      · obtain ⟨k, hk⟩ : ∃ k, ms[i]? = some k := ⟨_, List.getElem?_eq_getElem (by rw [hms.out.1]; exact hlt)⟩
        have hkin := HMK.out k (List.mem_of_getElem? ((hms.out.2.2 i (Nat.le_refl _)).symm.trans hk))
        have hrm := hM.out.rm
        obtain ⟨g, rfl, cur, hg⟩ : ∃ g, A = some ⟨g, 0, none⟩ ∧ ∃ cur, wr.heap[g]? = some (.cells cur 44 (0, 0)) := by
          rcases hrm.2 with ⟨_, e2⟩ | ⟨g, cap, cur, e1, _, hg, _⟩
          · have := hms.out.1; omega
          · cases e1; exact ⟨g, rfl, cur, hg⟩
        have hc0 : wr.cell? ⟨g, i, none⟩ = some k.v := by
          have := World.ownsRow.cells hrm (g := g) rfl i k.v (by unfold cellsC; rw [List.getElem?_map, hk]; rfl)
          rw [Addr.add_lit, Nat.zero_add] at this
          exact this
        have hlt' := hg
        have hgD : D ≠ g := fun e => row_type hrm hbl.out.1 (by decide) (by rw [e]; rfl)
        have hgQ : w.heap.size + 1 + 1 + 1 ≠ g := fun e => row_type hrm hbl.out.2.1 (by decide) (by rw [e]; rfl)
        have hgb := hrm.lt g rfl
        have HKI := Lib.hid ((hkin.1.later hbl.out.2.2).later (C3.drewB wr))
        have hkl := hkin.2
        have HG := Lib.hid hg
        have HK := Lib.hid hk
        obtain ⟨kA, kc, kl⟩ := k
        simp only [V4.Ck.v] at hc0 hkl
        clear hrm hkin hg hk hlt' HMK d0 HQ
        have d0r : wr.cell? ⟨D, 0, none⟩ = some (.slice (some ⟨g, 0, none⟩) k0 c) := blk_cell hbl.out.1 0 _ rfl
        go_wp2_with fail
        refine wp_region_noPanic ?_
        refine wp_region_held_drew (S := fun w' => w'.cell? ⟨D, 0, none⟩ = some (.slice (some ⟨g, 0, none⟩) k0 c)) (by kernel_rfl) ?_ (fun hHeld => ?_)
        · exact d0r
        refine V4.takeH 0 47 (v := ?r7v0) rfl rfl (by kernel_rfl) (by kernel_rfl) (by kernel_rfl) (fun _ _ _ h => h) (Or.inl ⟨by rfl, ?r7h0⟩) (by assumption) ?r7r0
        case r7h0 => (intro w hSw; (try dsimp only at hSw); go_simp; try (with_reducible rfl))
        simp only [List.set_cons_zero, List.set_cons_succ]
        refine V4.takeH 1 48 (v := ?r7v1) rfl rfl (by kernel_rfl) (by kernel_rfl) (by kernel_rfl) (fun _ _ _ h => h) (Or.inl ⟨by rfl, ?r7h1⟩) (by assumption) ?r7r1
        case r7h1 => (intro w hSw; (try dsimp only at hSw); go_simp; try (with_reducible rfl))
        simp only [List.set_cons_zero, List.set_cons_succ]
        refine V4.takeH 2 49 (v := ?r7v2) rfl rfl (by kernel_rfl) (by kernel_rfl) (by kernel_rfl) (fun _ _ _ h => h) (Or.inl ⟨by rfl, ?r7h2⟩) (by assumption) ?r7r2
        case r7h2 => (intro w hSw; (try dsimp only at hSw); go_simp; try (with_reducible rfl))
        simp only [List.set_cons_zero, List.set_cons_succ]
        refine V4.takeH 3 50 (v := ?r7v3) rfl rfl (by kernel_rfl) (by kernel_rfl) (by kernel_rfl) (fun _ _ _ h => h) (Or.inl ⟨by rfl, ?r7h3⟩) (by assumption) ?r7r3
        case r7h3 => (intro w hSw; (try dsimp only at hSw); go_simp; try (with_reducible rfl))
        simp only [List.set_cons_zero, List.set_cons_succ]
        refine wpAnyH_ready (rs := [4]) (by kernel_rfl) (by simp) ?_
        refine AllReadyH.cons rfl (fun K hK => ?_) AllReadyH.nil
        go_simp
        go_wp2_with (go_at_call 76; refine (cloneT_any ⟨kA, kc, kl⟩ _ HKI.out hkl).mono ?_; rintro e Y ⟨k', rfl, hkl', hki', hbY⟩)
        replace hbY : Below wr.heap.size wr Y := (C3.drewB wr).trans hbY
        obtain ⟨kA', kc', kl'⟩ := k'
        simp only at hkl'
        subst hkl'
        have hgY : Y.heap[g]? = some (.cells cur 44 (0, 0)) := (hbY.block g hgb.2).trans HG.out
        have hDY : Blk Y D 130 #[.slice (some ⟨g, 0, none⟩) k0 c, .slice A2 k0 c2] := hbl.out.1.below hbY
        have hQY := hbl.out.2.1.below hbY
        have hbwY : Below w.heap.size w Y := hbl.out.2.2.trans (hbY.mono hbl.out.2.2.size)
        have HMY := Lib.hid (hM.out.below hbY)
        have hc0Y : Y.cell? ⟨g, i, none⟩ = some (.slice kA kl'.length kc) := (hbY.cell (p := ⟨g, i, none⟩) hgb.2).trans hc0
        have fzY : Y.frozen? ⟨g, i, none⟩ = false := frozen_of_row Y g i cur _ hgY
        have d0Y : Y.cell? ⟨D, 0, none⟩ = some (.slice (some ⟨g, 0, none⟩) k0 c) := blk_cell hDY 0 _ rfl
        have HP := Lib.hid (HMY.out.put (k := ⟨kA', kc', kl'⟩) hms.out.1 (hki'.mono fun b hb => ⟨Nat.le_trans (HMY.out.rm.lt g rfl).1 (Nat.le_trans (Nat.le_of_lt hgb.2) hb.1), hb.2, fun e => Nat.lt_irrefl _ (Nat.lt_of_lt_of_le (e ▸ hgb.2) hb.1)⟩))
        simp only [V4.Ck.v] at HP ⊢
        refine hK.out _ _ ?_ (fun hHeld => ?_)
        · exact d0Y
        clear hK K hki' d0r hc0
        refine V4.takeH 5 52 (v := ?r7v5) rfl rfl (by kernel_rfl) (by kernel_rfl) (by kernel_rfl) (fun _ _ _ h => h) (Or.inl ⟨by rfl, ?r7h5⟩) (by assumption) ?r7r5
        case r7h5 => (intro w hSw; (try dsimp only at hSw); go_simp; try (with_reducible rfl))
        simp only [List.set_cons_zero, List.set_cons_succ]
        refine wpAnyH_ready (rs := [6]) (by kernel_rfl) (by simp) ?_
        refine AllReadyH.cons rfl (fun K hK => ?_) AllReadyH.nil
        go_simp
        refine hK.out _ _ ?_ (fun hHeld => ?_)
        · exact blk_cell (hDY.other hgD i _) 0 _ rfl
        clear hK K
        refine wpAnyH_done (by kernel_rfl) ?_ _
        refine NoPanic.normal ?_
        go_wp2_with fail
        go_roundw
        case rel =>
          refine ⟨i + 1, ms.set i ⟨kA', kc', kl'⟩, by omega, by go_num, HP.out, ⟨by rw [List.length_set]; exact hms.out.1, ?_, fun j hj => ?_⟩, hDY.other hgD i _, hQY.other hgQ i _, hbwY.setCell (by have := (HMY.out.rm.lt g rfl).1; have := HB.out; simp only; omega) _⟩
          · rw [List.map_set, ← hms.out.2.1]
            apply List.ext_getElem?
            intro j
            rw [List.getElem?_set]
            split
            · rename_i e; subst e
              rw [List.getElem?_map, HK.out]
              simp [hms.out.1, hlt]
            · rfl
          · rw [List.getElem?_set_ne (by omega)]
            exact hms.out.2.2 j (by omega)
        case measure => simp [intOf]; omega
      · have e9 : i = k0 := by omega
        subst e9
        have q6 := hbl.out.2.1
        have q10 := hbl.out.1
        have e0 : wr.cell? ⟨D, 0, none⟩ = some (.slice A i c) := blk_cell q10 0 _ rfl
        have e1 : wr.cell? ⟨D, 1, none⟩ = some (.slice A2 i c2) := blk_cell q10 1 _ rfl
        have d0' : wr.cell? ⟨w.heap.size + 1 + 1 + 1, 0, none⟩ = some (.int .u64 0) := blk_cell q6 0 _ rfl
        have d1 : wr.cell? ⟨w.heap.size + 1 + 1 + 1, 1, none⟩ = some (.int .u64 0) := blk_cell q6 1 _ rfl
        have d2 : wr.cell? ⟨w.heap.size + 1 + 1 + 1, 2, none⟩ = some (.slice none 0 0) := blk_cell q6 2 _ rfl
        have d3 : wr.cell? ⟨w.heap.size + 1 + 1 + 1, 3, none⟩ = some (.slice none 0 0) := blk_cell q6 3 _ rfl
        have d4 : wr.cell? ⟨w.heap.size + 1 + 1 + 1, 4, none⟩ = some (.slice none 0 0) := blk_cell q6 4 _ rfl
        have f0 := blk_frozen q6 0
        have f1 := blk_frozen q6 1
        have f2 := blk_frozen q6 2
        have f3 := blk_frozen q6 3
        have f4 := blk_frozen q6 4
        clear HMK d0 HQ
        go_wp2_with fail
        refine bodyPost_ret (results_cv rfl _ _ (w.heap.size + 1 + 1 + 1) (.int .u64 0) (.int .u64 0) (.slice none 0 0) (.slice A i c) (.slice A2 i c2) rfl (blk_cell (set5_blk q6) 0 _ rfl) (blk_cell (set5_blk q6) 1 _ rfl) (blk_cell (set5_blk q6) 2 _ rfl) (blk_cell (set5_blk q6) 3 _ rfl) (blk_cell (set5_blk q6) 4 _ rfl)) rfl ?_
        have hout := HK.out.2
        rcases HCS.out with ⟨h1, rfl⟩ | ⟨h1, rfl, rfl, rfl, rfl, rfl, rfl, rfl⟩
        · refine .inl ⟨.mk 0 0 none 0 [] A c ms A2 c2 (out.map (·.2)), ?_, ?_, ((hM.out.val hms.out.1 (by rw [List.length_map]; exact hout) (by rw [hms.out.1]; exact Nat.le_refl _) hk40 hk40).keep fun b hP => ?_).mono fun b hP => ⟨by have := HB.out; omega, ?_⟩, set5_bel hbl.out.2.2 (by omega)⟩
          · rw [h1, er_mk, hms.out.2.1]
            simp [er2T, Function.comp_def]
          · simp [val_mk, hms.out.1, hout]
          · exact set5_low (by have := HB.out; omega)
          · have h5 := set5_size (W := wr) (D := w.heap.size + 1 + 1 + 1) (v0 := .int .u64 0) (v1 := .int .u64 0) (v2 := .slice none 0 0) (v3 := .slice A i c) (v4 := .slice A2 i c2)
            exact Nat.lt_of_lt_of_le hP.2 (Nat.le_of_eq h5.symm)
        · exact .inr ⟨by rw [h1]; rfl, rfl, set5_bel hbl.out.2.2 (by omega)⟩
  · refine wp_region_noPanic ?_
    refine wp_region_held_drew (S := fun w' => w'.cell? ⟨w.heap.size, 0, none⟩ = some (.int .i64 sk) ∧ w'.cell? ⟨w.heap.size, 1, none⟩ = some (.slice sA0 sl.length sc0)) (by kernel_rfl) ?_ (fun hHeld => ?_)
    · exact ⟨g0, g1⟩
    refine V4.takeH 0 32 (v := ?r3v0) rfl rfl (by kernel_rfl) (by kernel_rfl) (by kernel_rfl) (fun _ _ _ h => h) (Or.inl ⟨by rfl, ?r3h0⟩) (by assumption) ?r3r0
    case r3h0 => (intro w hSw; (try dsimp only at hSw); go_simp; try (with_reducible rfl))
    simp only [List.set_cons_zero, List.set_cons_succ]
    refine V4.takeH 1 33 (v := ?r3v1) rfl rfl (by kernel_rfl) (by kernel_rfl) (by kernel_rfl) (fun _ _ _ h => h) (Or.inl ⟨by rfl, ?r3h1⟩) (by assumption) ?r3r1
    case r3h1 => (intro w hSw; (try dsimp only at hSw); go_simp; try (with_reducible rfl))
    simp only [List.set_cons_zero, List.set_cons_succ]
    refine V4.takeH 2 34 (v := ?r3v2) rfl rfl (by kernel_rfl) (by kernel_rfl) (by kernel_rfl) (fun _ _ _ h => h) (Or.inl ⟨by rfl, ?r3h2⟩) (by assumption) ?r3r2
    case r3h2 => (intro w hSw; (try dsimp only at hSw); go_simp; try (with_reducible rfl))
    simp only [List.set_cons_zero, List.set_cons_succ]
    obtain ⟨Z0, hZ0⟩ : ∃ Z0, Vq.drew = Z0 := ⟨_, rfl⟩
    rw [hZ0] at hHeld ⊢
    have hb0 : Below Vq.heap.size Vq Z0 := by rw [← hZ0]; exact C3.drewB Vq
    clear hZ0 g0 g1
    refine wpAnyH_ready (rs := [3, 8]) (by kernel_rfl) (by simp) ?_
    refine AllReadyH.cons rfl (fun K hK => ?c3) (AllReadyH.cons rfl (fun K hK => ?c8) AllReadyH.nil)
    case c3 =>
      go_simp
      go_wp2_with (go_at_call 73; refine (without_any _ _ _ _ _ _ rfl rfl Z0).mono ?_; rintro e Z1 ⟨rfl, hZ1⟩)
      have hbz : Below Z0.heap.size Z0 Z1 := by rw [← hZ1]; exact belAl (allocB _ _)
      have hBa : Blk Z1 Z0.heap.size 128 #[.func (.func 97) #[] #[.pointer (some ⟨b1, 0, none⟩), .pointer (some ⟨b2, 0, none⟩), .pointer (some ⟨b3, 0, none⟩)]] := by rw [← hZ1]; exact (Blk.new _ _ _).below (allocB _ _)
      have hBi : Blk Z1 (Z0.heap.size + 1) 138 #[.func (.func 74) #[] #[.pointer (some ⟨W3.heap.size, 0, none⟩)]] := by
        rw [← hZ1]
        have := Blk.new (Z0.alloc (.cells #[.func (.func 97) #[] #[.pointer (some ⟨b1, 0, none⟩), .pointer (some ⟨b2, 0, none⟩), .pointer (some ⟨b3, 0, none⟩)]] 128)) 138 #[.func (.func 74) #[] #[.pointer (some ⟨W3.heap.size, 0, none⟩)]]
        rw [World.size_alloc] at this
        exact this
      have hbq : Below Vq.heap.size Vq Z1 := hb0.trans (hbz.mono hb0.size)
      refine hK.out _ _ ?_ (fun hHeld => ?_)
      · exact ⟨blk_cell (HE.out.2.1.below hbq) 0 _ rfl, blk_cell (HE.out.2.1.below hbq) 1 _ rfl⟩
      clear hK K
      refine wpAnyH_ready (rs := [4, 8]) (by kernel_rfl) (by simp) ?_
      refine AllReadyH.cons rfl (fun K hK => ?c34) (AllReadyH.cons rfl (fun K hK => ?c38) AllReadyH.nil)
      case c34 =>
        go_simp
        go_wp2_with (go_at_call 72; refine (HT.out Z1 _ _ hbq hBa hBi).mono ?_; rintro e U hU; obtain ⟨A, k0, c, A2, c2, ev, out, rfl, hH, hk0, hk40, hbU, hcase⟩ := retTT_case hU)
        have hbu : Below Vq.heap.size Vq U := hbq.trans (hbU.mono hbq.size)
        refine hK.out _ _ ?_ (fun hHeld => ?_)
        · exact ⟨blk_cell (HE.out.2.1.below hbu) 0 _ rfl, blk_cell (HE.out.2.1.below hbu) 1 _ rfl⟩
        clear hK K
        refine V4.takeH 5 31 (v := ?r4v5) rfl rfl (by kernel_rfl) (by kernel_rfl) (by kernel_rfl) (fun _ _ _ h => h) (Or.inl ⟨by rfl, ?r4h5⟩) (by assumption) ?r4r5
        case r4h5 => (intro w hSw; (try dsimp only at hSw); go_simp; try (with_reducible rfl))
        simp only [List.set_cons_zero, List.set_cons_succ]
        refine V4.takeH 6 37 (v := ?r4v6) rfl rfl (by kernel_rfl) (by kernel_rfl) (by kernel_rfl) (fun _ _ _ h => h) (Or.inl ⟨by rfl, ?r4h6⟩) (by assumption) ?r4r6
        case r4h6 => (intro w hSw; (try dsimp only at hSw); go_simp; try (with_reducible rfl))
        simp only [List.set_cons_zero, List.set_cons_succ]
        refine V4.takeH 7 38 (v := ?r4v7) rfl rfl (by kernel_rfl) (by kernel_rfl) (by kernel_rfl) (fun _ _ _ h => h) (Or.inl ⟨by rfl, ?r4h7⟩) (by assumption) ?r4r7
        case r4h7 => (intro w hSw; (try dsimp only at hSw); go_simp; try (with_reducible rfl))
        simp only [List.set_cons_zero, List.set_cons_succ]
        refine wpAnyH_ready (rs := [8]) (by kernel_rfl) (by simp) ?_
        refine AllReadyH.cons rfl (fun K hK => ?_) AllReadyH.nil
        go_simp
        obtain ⟨Y, hZn⟩ : ∃ Zn, U.alloc (.cells #[.slice none 0 0, .slice none 0 0] 130) = Zn := ⟨_, rfl⟩
        rw [hZn]
        have hbn : Below U.heap.size U Y := by rw [← hZn]; exact allocB _ _
        have hDz : Blk Y U.heap.size 130 #[.slice none 0 0, .slice none 0 0] := by rw [← hZn]; exact Blk.new _ _ _
        clear hZn
        have hbY : Below Vq.heap.size Vq Y := hbu.trans (hbn.mono hbu.size)
        refine hK.out _ _ ?_ (fun hHeld => ?_)
        · exact ⟨blk_cell (HE.out.2.1.below hbY) 0 _ rfl, blk_cell (HE.out.2.1.below hbY) 1 _ rfl⟩
        clear hK K
        have hDY := hDz
        have hYU := hbn
        have hDq : Vq.heap.size ≤ U.heap.size := hbu.size
        have hDb : Vq.heap.size ≤ Z1.heap.size := hbq.size
        have hDU : ∀ b, Z1.heap.size ≤ b → b < U.heap.size → b ≠ U.heap.size := fun b _ h => Nat.ne_of_lt h
        have c0 : Y.cell? ⟨U.heap.size, 0, none⟩ = some (.slice none 0 0) := blk_cell hDY 0 _ rfl
        have c1 : Y.cell? ⟨U.heap.size, 1, none⟩ = some (.slice none 0 0) := blk_cell hDY 1 _ rfl
        have z0 := blk_frozen hDY 0
        have z1 := blk_frozen hDY 1
        have hDw : w.heap.size + 1 + 1 + 1 < U.heap.size := Nat.lt_of_lt_of_le hw3 hDq
        refine wpAnyH_ready (rs := [9]) (by kernel_rfl) (by simp) ?_
        refine AllReadyH.cons rfl (fun K hK => ?_) AllReadyH.nil
        go_simp
        refine hK.out _ _ ?_ (fun hHeld => ?_)
        · exact ⟨blk_cell (((HE.out.2.1.below hbY).other (by omega) 0 _).other (by omega) 1 _) 0 _ rfl, blk_cell (((HE.out.2.1.below hbY).other (by omega) 0 _).other (by omega) 1 _) 1 _ rfl⟩
        clear hK K
        refine V4.takeH 10 11 (v := ?r5v10) rfl rfl (by kernel_rfl) (by kernel_rfl) (by kernel_rfl) (fun _ _ _ h => h) (Or.inl ⟨by rfl, ?r5h10⟩) (by assumption) ?r5r10
        case r5h10 => (intro w hSw; (try dsimp only at hSw); go_simp; try (with_reducible rfl))
        simp only [List.set_cons_zero, List.set_cons_succ]
        refine wpAnyH_done (by kernel_rfl) ?_ _
        refine NoPanic.normal ?_
        refine ⟨rfl, Z0.heap.size, (Z0.heap.size + 1), U.heap.size, k0, A, c, A2, c2, ev, Z1.heap.size, out, rfl, (hDY.set 0 _).set 1 _, ((HE.out.2.2.below hbY).other (by omega) 0 _).other (by omega) 1 _, hH.keep (by rw [World.size_setCell, World.size_setCell]; exact hYU.size) (fun b h1 h2 _ => ?_), Nat.lt_of_lt_of_le hw3 hDb, by omega, hk0, hk40, ((HE.out.1.trans (hbY.mono HE.out.1.size)).setCell (by simp only; omega) _).setCell (by simp only; omega) _, hcase⟩
        rw [Below.heap_setCell _ _ _ _ (hDU b h1 h2), Below.heap_setCell _ _ _ _ (hDU b h1 h2)]
        exact hYU.block b h2
      case c38 =>
        go_simp
        obtain ⟨Z2, hZn⟩ : ∃ Zn, Z1.alloc (.cells #[.slice none 0 0, .slice none 0 0] 130) = Zn := ⟨_, rfl⟩
        rw [hZn]
        have hbn : Below Z1.heap.size Z1 Z2 := by rw [← hZn]; exact allocB _ _
        have hDz : Blk Z2 Z1.heap.size 130 #[.slice none 0 0, .slice none 0 0] := by rw [← hZn]; exact Blk.new _ _ _
        clear hZn
        have hbq2 : Below Vq.heap.size Vq Z2 := hbq.trans (hbn.mono hbq.size)
        refine hK.out _ _ ?_ (fun hHeld => ?_)
        · exact ⟨blk_cell (HE.out.2.1.below hbq2) 0 _ rfl, blk_cell (HE.out.2.1.below hbq2) 1 _ rfl⟩
        clear hK K
        replace hBa := hBa.below hbn
        replace hBi := hBi.below hbn
        refine wpAnyH_ready (rs := [4]) (by kernel_rfl) (by simp) ?_
        refine AllReadyH.cons rfl (fun K hK => ?_) AllReadyH.nil
        go_simp
        go_wp2_with (go_at_call 72; refine (HT.out Z2 _ _ hbq2 hBa hBi).mono ?_; rintro e U hU; obtain ⟨A, k0, c, A2, c2, ev, out, rfl, hH, hk0, hk40, hbU, hcase⟩ := retTT_case hU)
        have hbu : Below Vq.heap.size Vq U := hbq2.trans (hbU.mono hbq2.size)
        refine hK.out _ _ ?_ (fun hHeld => ?_)
        · exact ⟨blk_cell (HE.out.2.1.below hbu) 0 _ rfl, blk_cell (HE.out.2.1.below hbu) 1 _ rfl⟩
        clear hK K
        refine V4.takeH 5 31 (v := ?r6v5) rfl rfl (by kernel_rfl) (by kernel_rfl) (by kernel_rfl) (fun _ _ _ h => h) (Or.inl ⟨by rfl, ?r6h5⟩) (by assumption) ?r6r5
        case r6h5 => (intro w hSw; (try dsimp only at hSw); go_simp; try (with_reducible rfl))
        simp only [List.set_cons_zero, List.set_cons_succ]
        refine V4.takeH 6 37 (v := ?r6v6) rfl rfl (by kernel_rfl) (by kernel_rfl) (by kernel_rfl) (fun _ _ _ h => h) (Or.inl ⟨by rfl, ?r6h6⟩) (by assumption) ?r6r6
        case r6h6 => (intro w hSw; (try dsimp only at hSw); go_simp; try (with_reducible rfl))
        simp only [List.set_cons_zero, List.set_cons_succ]
        refine V4.takeH 7 38 (v := ?r6v7) rfl rfl (by kernel_rfl) (by kernel_rfl) (by kernel_rfl) (fun _ _ _ h => h) (Or.inl ⟨by rfl, ?r6h7⟩) (by assumption) ?r6r7
        case r6h7 => (intro w hSw; (try dsimp only at hSw); go_simp; try (with_reducible rfl))
        simp only [List.set_cons_zero, List.set_cons_succ]
        have hDY := hDz.below hbU
        have hYU := Below.refl U.heap.size U
        have hDq : Vq.heap.size ≤ Z1.heap.size := hbq.size
        have hDb : Vq.heap.size ≤ Z2.heap.size := hbq2.size
        have hlz := hDz.lt
        have hDU : ∀ b, Z2.heap.size ≤ b → b < U.heap.size → b ≠ Z1.heap.size := fun b h _ => by omega
        have c0 : U.cell? ⟨Z1.heap.size, 0, none⟩ = some (.slice none 0 0) := blk_cell hDY 0 _ rfl
        have c1 : U.cell? ⟨Z1.heap.size, 1, none⟩ = some (.slice none 0 0) := blk_cell hDY 1 _ rfl
        have z0 := blk_frozen hDY 0
        have z1 := blk_frozen hDY 1
        have hDw : w.heap.size + 1 + 1 + 1 < Z1.heap.size := Nat.lt_of_lt_of_le hw3 hDq
        refine wpAnyH_ready (rs := [9]) (by kernel_rfl) (by simp) ?_
        refine AllReadyH.cons rfl (fun K hK => ?_) AllReadyH.nil
        go_simp
        refine hK.out _ _ ?_ (fun hHeld => ?_)
        · exact ⟨blk_cell (((HE.out.2.1.below hbu).other (by omega) 0 _).other (by omega) 1 _) 0 _ rfl, blk_cell (((HE.out.2.1.below hbu).other (by omega) 0 _).other (by omega) 1 _) 1 _ rfl⟩
        clear hK K
        refine V4.takeH 10 11 (v := ?r7v10) rfl rfl (by kernel_rfl) (by kernel_rfl) (by kernel_rfl) (fun _ _ _ h => h) (Or.inl ⟨by rfl, ?r7h10⟩) (by assumption) ?r7r10
        case r7h10 => (intro w hSw; (try dsimp only at hSw); go_simp; try (with_reducible rfl))
        simp only [List.set_cons_zero, List.set_cons_succ]
        refine wpAnyH_done (by kernel_rfl) ?_ _
        refine NoPanic.normal ?_
        refine ⟨rfl, Z0.heap.size, (Z0.heap.size + 1), Z1.heap.size, k0, A, c, A2, c2, ev, Z2.heap.size, out, rfl, (hDY.set 0 _).set 1 _, ((HE.out.2.2.below hbu).other (by omega) 0 _).other (by omega) 1 _, hH.keep (by rw [World.size_setCell, World.size_setCell]; exact hYU.size) (fun b h1 h2 _ => ?_), Nat.lt_of_lt_of_le hw3 hDb, by omega, hk0, hk40, ((HE.out.1.trans (hbu.mono HE.out.1.size)).setCell (by simp only; omega) _).setCell (by simp only; omega) _, hcase⟩
        rw [Below.heap_setCell _ _ _ _ (hDU b h1 h2), Below.heap_setCell _ _ _ _ (hDU b h1 h2)]

    case c8 =>
      go_simp
      obtain ⟨Zd, hZn⟩ : ∃ Zn, Z0.alloc (.cells #[.slice none 0 0, .slice none 0 0] 130) = Zn := ⟨_, rfl⟩
      rw [hZn]
      have hbn : Below Z0.heap.size Z0 Zd := by rw [← hZn]; exact allocB _ _
      have hDz : Blk Zd Z0.heap.size 130 #[.slice none 0 0, .slice none 0 0] := by rw [← hZn]; exact Blk.new _ _ _
      clear hZn
      have hbd : Below Vq.heap.size Vq Zd := hb0.trans (hbn.mono hb0.size)
      refine hK.out _ _ ?_ (fun hHeld => ?_)
      · exact ⟨blk_cell (HE.out.2.1.below hbd) 0 _ rfl, blk_cell (HE.out.2.1.below hbd) 1 _ rfl⟩
      clear hK K
      refine wpAnyH_ready (rs := [3]) (by kernel_rfl) (by simp) ?_
      refine AllReadyH.cons rfl (fun K hK => ?_) AllReadyH.nil
      go_simp
      go_wp2_with (go_at_call 73; refine (without_any _ _ _ _ _ _ rfl rfl Zd).mono ?_; rintro e Z1 ⟨rfl, hZ1⟩)
      have hbz : Below Zd.heap.size Zd Z1 := by rw [← hZ1]; exact belAl (allocB _ _)
      have hBa : Blk Z1 Zd.heap.size 128 #[.func (.func 97) #[] #[.pointer (some ⟨b1, 0, none⟩), .pointer (some ⟨b2, 0, none⟩), .pointer (some ⟨b3, 0, none⟩)]] := by rw [← hZ1]; exact (Blk.new _ _ _).below (allocB _ _)
      have hBi : Blk Z1 (Zd.heap.size + 1) 138 #[.func (.func 74) #[] #[.pointer (some ⟨W3.heap.size, 0, none⟩)]] := by
        rw [← hZ1]
        have := Blk.new (Zd.alloc (.cells #[.func (.func 97) #[] #[.pointer (some ⟨b1, 0, none⟩), .pointer (some ⟨b2, 0, none⟩), .pointer (some ⟨b3, 0, none⟩)]] 128)) 138 #[.func (.func 74) #[] #[.pointer (some ⟨W3.heap.size, 0, none⟩)]]
        rw [World.size_alloc] at this
        exact this
      have hbq : Below Vq.heap.size Vq Z1 := hbd.trans (hbz.mono hbd.size)
      refine hK.out _ _ ?_ (fun hHeld => ?_)
      · exact ⟨blk_cell (HE.out.2.1.below hbq) 0 _ rfl, blk_cell (HE.out.2.1.below hbq) 1 _ rfl⟩
      clear hK K
      refine wpAnyH_ready (rs := [4]) (by kernel_rfl) (by simp) ?_
      refine AllReadyH.cons rfl (fun K hK => ?_) AllReadyH.nil
      go_simp
      go_wp2_with (go_at_call 72; refine (HT.out Z1 _ _ hbq hBa hBi).mono ?_; rintro e U hU; obtain ⟨A, k0, c, A2, c2, ev, out, rfl, hH, hk0, hk40, hbU, hcase⟩ := retTT_case hU)
      have hbu : Below Vq.heap.size Vq U := hbq.trans (hbU.mono hbq.size)
      refine hK.out _ _ ?_ (fun hHeld => ?_)
      · exact ⟨blk_cell (HE.out.2.1.below hbu) 0 _ rfl, blk_cell (HE.out.2.1.below hbu) 1 _ rfl⟩
      clear hK K
      refine V4.takeH 5 31 (v := ?r8v5) rfl rfl (by kernel_rfl) (by kernel_rfl) (by kernel_rfl) (fun _ _ _ h => h) (Or.inl ⟨by rfl, ?r8h5⟩) (by assumption) ?r8r5
      case r8h5 => (intro w hSw; (try dsimp only at hSw); go_simp; try (with_reducible rfl))
      simp only [List.set_cons_zero, List.set_cons_succ]
      refine V4.takeH 6 37 (v := ?r8v6) rfl rfl (by kernel_rfl) (by kernel_rfl) (by kernel_rfl) (fun _ _ _ h => h) (Or.inl ⟨by rfl, ?r8h6⟩) (by assumption) ?r8r6
      case r8h6 => (intro w hSw; (try dsimp only at hSw); go_simp; try (with_reducible rfl))
      simp only [List.set_cons_zero, List.set_cons_succ]
      refine V4.takeH 7 38 (v := ?r8v7) rfl rfl (by kernel_rfl) (by kernel_rfl) (by kernel_rfl) (fun _ _ _ h => h) (Or.inl ⟨by rfl, ?r8h7⟩) (by assumption) ?r8r7
      case r8h7 => (intro w hSw; (try dsimp only at hSw); go_simp; try (with_reducible rfl))
      simp only [List.set_cons_zero, List.set_cons_succ]
      have hDY := (hDz.below hbz).below hbU
      have hYU := Below.refl U.heap.size U
      have hDq : Vq.heap.size ≤ Z0.heap.size := hb0.size
      have hDb : Vq.heap.size ≤ Z1.heap.size := hbq.size
      have hlz := (hDz.below hbz).lt
      have hDU : ∀ b, Z1.heap.size ≤ b → b < U.heap.size → b ≠ Z0.heap.size := fun b h _ => by omega
      have c0 : U.cell? ⟨Z0.heap.size, 0, none⟩ = some (.slice none 0 0) := blk_cell hDY 0 _ rfl
      have c1 : U.cell? ⟨Z0.heap.size, 1, none⟩ = some (.slice none 0 0) := blk_cell hDY 1 _ rfl
      have z0 := blk_frozen hDY 0
      have z1 := blk_frozen hDY 1
      have hDw : w.heap.size + 1 + 1 + 1 < Z0.heap.size := Nat.lt_of_lt_of_le hw3 hDq
      refine wpAnyH_ready (rs := [9]) (by kernel_rfl) (by simp) ?_
      refine AllReadyH.cons rfl (fun K hK => ?_) AllReadyH.nil
      go_simp
      refine hK.out _ _ ?_ (fun hHeld => ?_)
      · exact ⟨blk_cell (((HE.out.2.1.below hbu).other (by omega) 0 _).other (by omega) 1 _) 0 _ rfl, blk_cell (((HE.out.2.1.below hbu).other (by omega) 0 _).other (by omega) 1 _) 1 _ rfl⟩
      clear hK K
      refine V4.takeH 10 11 (v := ?r9v10) rfl rfl (by kernel_rfl) (by kernel_rfl) (by kernel_rfl) (fun _ _ _ h => h) (Or.inl ⟨by rfl, ?r9h10⟩) (by assumption) ?r9r10
      case r9h10 => (intro w hSw; (try dsimp only at hSw); go_simp; try (with_reducible rfl))
      simp only [List.set_cons_zero, List.set_cons_succ]
      refine wpAnyH_done (by kernel_rfl) ?_ _
      refine NoPanic.normal ?_
      refine ⟨rfl, Zd.heap.size, (Zd.heap.size + 1), Z0.heap.size, k0, A, c, A2, c2, ev, Z1.heap.size, out, rfl, (hDY.set 0 _).set 1 _, ((HE.out.2.2.below hbu).other (by omega) 0 _).other (by omega) 1 _, hH.keep (by rw [World.size_setCell, World.size_setCell]; exact hYU.size) (fun b h1 h2 _ => ?_), Nat.lt_of_lt_of_le hw3 hDb, by omega, hk0, hk40, ((HE.out.1.trans (hbu.mono HE.out.1.size)).setCell (by simp only; omega) _).setCell (by simp only; omega) _, hcase⟩
      rw [Below.heap_setCell _ _ _ _ (hDU b h1 h2), Below.heap_setCell _ _ _ _ (hDU b h1 h2)]

end Go.Proofs.YtdbohojncbeajaaGreat.J5

namespace Go.Proofs.YtdbohojncbeajaaGreat.J5
open Go.RowKit Go.Shelf
open C3 (Tk In cmpI belAl allocB)
open V4 (Va Vl Ck LiesC val_mk er_mk compareU_any takeH)

set_option maxHeartbeats 400000 in
theorem isNaNS_any (x : Str) (w : World) : Calls Tryz.prog 130 #[.string (S x)] w fun e w' => e = .returned (.bool false) ∧ w = w' := by
  go_enter Tryz.func130, Tryz.ntmps130
  go_wp2
  go_ret
  exact ⟨rfl, rfl⟩

theorem cmpS_lt {x y : Str} (h : x < y) : cmpS x y = -1 := by unfold cmpS; rw [if_pos h]
theorem cmpS_gt {x y : Str} (h : y < x) : cmpS x y = 1 := by unfold cmpS; rw [if_neg (R1.str_asymm h), if_pos h]
theorem cmpS_eq (x : Str) : cmpS x x = 0 := by unfold cmpS; rw [if_neg (R1.str_irrefl x), if_neg (R1.str_irrefl x)]

set_option maxHeartbeats 400000 in
theorem compareS_any (x y : Str) (w : World) : Calls Tryz.prog 119 #[.string (S x), .string (S y)] w fun e w' => e = .returned (.int .i64 (cmpS x y)) ∧ w = w' := by
  rcases R1.str_tri x y with h | h | h
  · rw [cmpS_lt h]
    have hb1 := R1.bl_true h
    go_enter Tryz.func119, Tryz.ntmps119
    go_wp2_with (go_at_call 130; refine (isNaNS_any _ _).mono ?_; rintro e w' ⟨rfl, rfl⟩)
    go_ret
    exact ⟨rfl, rfl⟩
  · subst h
    rw [cmpS_eq]
    have hb1 := R1.bl_false (R1.str_irrefl x)
    go_enter Tryz.func119, Tryz.ntmps119
    go_wp2_with (go_at_call 130; refine (isNaNS_any _ _).mono ?_; rintro e w' ⟨rfl, rfl⟩)
    go_ret
    exact ⟨rfl, rfl⟩
  · rw [cmpS_gt h]
    have hb1 := R1.bl_true h
    have hb2 := R1.bl_false (R1.str_asymm h)
    have hb3 := beq_str (Ne.symm (R1.ne_of_slt h))
    go_enter Tryz.func119, Tryz.ntmps119
    go_wp2_with (go_at_call 130; refine (isNaNS_any _ _).mono ?_; rintro e w' ⟨rfl, rfl⟩)
    go_ret
    exact ⟨rfl, rfl⟩

theorem cmpL_drop {a b : List Str} {i : Nat} {x y : Str} (hx : a[i]? = some x) (hy : b[i]? = some y) : cmpL (a.drop i) (b.drop i) = if cmpS x y = 0 then cmpL (a.drop (i + 1)) (b.drop (i + 1)) else cmpS x y := by
  obtain ⟨hi, he⟩ := List.getElem?_eq_some_iff.1 hx
  obtain ⟨hj, hf⟩ := List.getElem?_eq_some_iff.1 hy
  rw [List.drop_eq_getElem_cons hi, List.drop_eq_getElem_cons hj, he, hf, cmpL]
theorem cmpL_eq0 {a b : List Str} {i : Nat} {x y : Str} (hx : a[i]? = some x) (hy : b[i]? = some y) (h : cmpS x y = 0) : cmpL (a.drop i) (b.drop i) = cmpL (a.drop (i + 1)) (b.drop (i + 1)) := by rw [cmpL_drop hx hy, if_pos h]
theorem cmpL_ne {a b : List Str} {i : Nat} {x y : Str} (hx : a[i]? = some x) (hy : b[i]? = some y) (h : cmpS x y ≠ 0) : cmpL (a.drop i) (b.drop i) = cmpS x y := by rw [cmpL_drop hx hy, if_neg h]
theorem cmpL_gt {a b : List Str} {i : Nat} (h1 : i < a.length) (h2 : b.length ≤ i) : cmpL (a.drop i) (b.drop i) = 1 := by
  rw [List.drop_eq_getElem_cons h1, List.drop_of_length_le h2, cmpL]
theorem cmpL_lt {a b : List Str} {i : Nat} (h1 : a.length ≤ i) (h2 : i < b.length) : cmpL (a.drop i) (b.drop i) = -1 := by
  rw [List.drop_eq_getElem_cons h2, List.drop_of_length_le h1, cmpL]
theorem cmpL_end {a b : List Str} {i : Nat} (h1 : a.length ≤ i) (h2 : b.length ≤ i) : cmpL (a.drop i) (b.drop i) = 0 := by
  rw [List.drop_of_length_le h1, List.drop_of_length_le h2, cmpL]

set_option maxHeartbeats 1000000 in
theorem slCompare_any (A A' : Option Addr) (c c' : Nat) (l l' : List Str) (w : World) (hl : Lies w A l) (hl' : Lies w A' l') (hn : l.length ≤ maxLen) (hn' : l'.length ≤ maxLen) :
    Calls Tryz.prog 92 #[.slice A l.length c, .slice A' l'.length c'] w fun e w' => e = .returned (.int .i64 (cmpL l l')) ∧ w = w' := by
  have hlm : l.length ≤ 9223372036854775807 := by unfold maxLen at hn; omega
  have hlm' : l'.length ≤ 9223372036854775807 := by unfold maxLen at hn'; omega
  clear hn hn'
  go_enter Tryz.func92, Tryz.ntmps92
  go_wp2_with fail
  go_loopw [11] (fun iv wr => ∃ k : Nat, k ≤ l.length ∧ k ≤ l'.length ∧ iv = .int .i64 k ∧ wr = w ∧ Hid (cmpL l l' = cmpL (l.drop k) (l'.drop k))) (fun iv _ => l.length - (intOf iv).toNat)
  case atStart => exact ⟨0, Nat.zero_le _, Nat.zero_le _, rfl, rfl, rfl⟩
  case round =>
    obtain ⟨k, hk, hk', rfl, rfl, h0⟩ := hrel
    by_cases hlt : k < l.length
    · obtain ⟨b, off, rfl, hb, hc⟩ := hl.get hlt
      obtain ⟨x, hx⟩ : ∃ x, l[k]? = some x := ⟨_, List.getElem?_eq_getElem hlt⟩
      have hc0 := hc k x hx
      have HX := Lib.hid hx
      clear hx hc hl
      by_cases hlt' : k < l'.length
      · obtain ⟨b', off', rfl, hb', hc'⟩ := hl'.get hlt'
        obtain ⟨y, hy⟩ : ∃ y, l'[k]? = some y := ⟨_, List.getElem?_eq_getElem hlt'⟩
        have hd0 := hc' k y hy
        have HY := Lib.hid hy
        clear hy hc' hl'
        have d1 : ¬ (l'.length ≤ k) := by omega
        obtain ⟨q, hq⟩ : ∃ q, cmpS x y = q := ⟨_, rfl⟩
        have HQ := Lib.hid hq
        clear hq
        go_wp2_with fail
        refine (compareS_any x y _).mono ?_
        rintro e w' ⟨rfl, rfl⟩
        rw [HQ.out]
        by_cases hq0 : q = 0
        · have k0 : (q != 0) = false := by simp [hq0]
          go_wp2_with fail
          go_roundw
          case rel => exact ⟨k + 1, by omega, by omega, by go_num, trivial, by show _ = _; rw [h0.out]; exact cmpL_eq0 HX.out HY.out (HQ.out.trans hq0)⟩
          case measure => simp [intOf]; omega
        · have k0 : (q != 0) = true := by simp [hq0]
          go_wp2_with fail
          go_ret
          refine ⟨ret_int ?_, rfl⟩
          rw [h0.out, cmpL_ne HX.out HY.out (by rw [HQ.out]; exact hq0), HQ.out]
      · have d1 : l'.length ≤ k := by omega
        go_wp2_with fail
        go_ret
        refine ⟨ret_int ?_, rfl⟩
        rw [h0.out, cmpL_gt hlt d1]
    · by_cases hll : l.length < l'.length
      · go_wp2_with fail
        go_ret
        refine ⟨ret_int ?_, rfl⟩
        rw [h0.out, cmpL_lt (by omega) (by omega)]
      · go_wp2_with fail
        go_ret
        refine ⟨ret_int ?_, rfl⟩
        rw [h0.out, cmpL_end (by omega) (by omega)]

/-- The first of three that is not 0. -/
def or3 (x y z : Int) : Int := if x = 0 then (if y = 0 then z else y) else x

set_option maxHeartbeats 400000 in
theorem or3_any (b : Nat) (x y z : Int) (w : World) (h0 : w.cell? ⟨b, 0, none⟩ = some (.int .i64 x)) (h1 : w.cell? ⟨b, 1, none⟩ = some (.int .i64 y)) (h2 : w.cell? ⟨b, 2, none⟩ = some (.int .i64 z)) :
    Calls Tryz.prog 90 #[.slice (some ⟨b, 0, none⟩) 3 3] w fun e w' => e = .returned (.int .i64 (or3 x y z)) ∧ w = w' := by
  go_enter Tryz.func90, Tryz.ntmps90
  go_wp2_with fail
  go_loopw [8] (fun iv wr => ∃ k : Nat, k ≤ 3 ∧ iv = .int .i64 k ∧ wr = w ∧ Hid (1 ≤ k → x = 0) ∧ Hid (2 ≤ k → y = 0) ∧ Hid (3 ≤ k → z = 0)) (fun iv _ => 3 - (intOf iv).toNat)
  case atStart => exact ⟨0, Nat.zero_le _, rfl, rfl, (fun h => by omega), (fun h => by omega), fun h => by omega⟩
  case round =>
    obtain ⟨k, hk, rfl, rfl, g0, g1, g2⟩ := hrel
    rcases (by omega : k = 0 ∨ k = 1 ∨ k = 2 ∨ k = 3) with rfl | rfl | rfl | rfl
    · by_cases hx : x = 0
      · have k1 : (x != 0) = false := by simp [hx]
        have HX := Lib.hid hx
        clear hx
        go_wp2_with fail
        go_roundw
        case rel => exact ⟨1, by omega, by go_num, trivial, (fun _ => HX.out), (fun h => by omega), fun h => by omega⟩
        case measure => simp [intOf]
      · have k1 : (x != 0) = true := by simp [hx]
        go_wp2_with fail
        go_ret
        exact ⟨by rw [or3, if_neg hx]; rfl, rfl⟩
    · have HX := Lib.hid (g0.out (by omega))
      by_cases hy : y = 0
      · have k1 : (y != 0) = false := by simp [hy]
        have HY := Lib.hid hy
        clear hy
        go_wp2_with fail
        go_roundw
        case rel => exact ⟨2, by omega, by go_num, trivial, (fun _ => HX.out), (fun _ => HY.out), fun h => by omega⟩
        case measure => simp [intOf]
      · have k1 : (y != 0) = true := by simp [hy]
        go_wp2_with fail
        go_ret
        exact ⟨by rw [or3, if_pos HX.out, if_neg hy]; rfl, rfl⟩
    · have HX := Lib.hid (g0.out (by omega))
      have HY := Lib.hid (g1.out (by omega))
      by_cases hz : z = 0
      · have k1 : (z != 0) = false := by simp [hz]
        have HZ := Lib.hid hz
        clear hz
        go_wp2_with fail
        go_roundw
        case rel => exact ⟨3, by omega, by go_num, trivial, (fun _ => HX.out), (fun _ => HY.out), fun _ => HZ.out⟩
        case measure => simp [intOf]
      · have k1 : (z != 0) = true := by simp [hz]
        go_wp2_with fail
        go_ret
        exact ⟨by rw [or3, if_pos HX.out, if_pos HY.out]; rfl, rfl⟩
    · have HX := Lib.hid (g0.out (by omega))
      have HY := Lib.hid (g1.out (by omega))
      have HZ := Lib.hid (g2.out (by omega))
      go_wp2_with fail
      go_ret
      exact ⟨by rw [or3, if_pos HX.out, if_pos HY.out, HZ.out]; rfl, rfl⟩

/-- Two boxes. -/
theorem blk2 {w V : World} {t0 t1 : TypeId} {c0 c1 : Array Value} (hV : (w.alloc (.cells c0 t0)).alloc (.cells c1 t1) = V) :
    Blk V w.heap.size t0 c0 ∧ Blk V (w.heap.size + 1) t1 c1 ∧ Below w.heap.size w V ∧ V.heap.size = w.heap.size + 2 := by
  refine ⟨?_, ?_, ?_, ?_⟩
  · rw [← hV]; exact (Blk.new w _ _).below (allocB _ _)
  · rw [← hV]
    have := Blk.new (w.alloc (.cells c0 t0)) t1 c1
    rw [World.size_alloc] at this
    exact this
  · rw [← hV]; exact belAl (belAl (Below.refl _ _))
  · rw [← hV]; simp

set_option maxRecDepth 100000 in
set_option maxHeartbeats 2000000 in
theorem byWriter_any (x y : Vl) (w : World) (hx : x.In w) (hy : y.In w) : Calls Tryz.prog 65 #[x.val, y.val] w (RetV w (.int .i64 (writerI x.er y.er))) := by
  obtain ⟨n, m, sA, sc, ss, cA, cc, cs, vA, vc, vs⟩ := x
  obtain ⟨n', m', sA', sc', ss', cA', cc', cs', vA', vc', vs'⟩ := y
  have px := hx.out
  have py := hy.out
  obtain ⟨p, hp⟩ : ∃ p, cmpI n n' = p := ⟨_, rfl⟩
  obtain ⟨q, hq⟩ : ∃ q, cmpI m m' = q := ⟨_, rfl⟩
  obtain ⟨r, hr⟩ : ∃ r, cmpL ss ss' = r := ⟨_, rfl⟩
  have HR : Hid (writerI (Vl.mk n m sA sc ss cA cc cs vA vc vs).er (Vl.mk n' m' sA' sc' ss' cA' cc' cs' vA' vc' vs').er = or3 p q r) := by
    show writerI _ _ = _
    rw [er_mk, er_mk, ← hp, ← hq, ← hr]; rfl
  have HP := Lib.hid hp
  have HQ := Lib.hid hq
  have HL := Lib.hid hr
  have HC : Hid (∀ W, Below w.heap.size w W → Calls Tryz.prog 92 #[.slice sA ss.length sc, .slice sA' ss'.length sc'] W fun e w' => e = .returned (.int .i64 (cmpL ss ss')) ∧ W = w') := fun W hb =>
    slCompare_any sA sA' sc sc' ss ss' W (px.sl.below hb) (py.sl.below hb) (by have := px.sb; omega) (by have := py.sb; omega)
  rw [HR.out]
  clear hx hy px py hp hq hr HR
  simp only [val_mk]
  obtain ⟨V, hV⟩ : ∃ V, (w.alloc (.cells #[.int .u64 n, .int .u64 m, .slice sA ss.length sc, .slice cA cs.length cc, .slice vA vs.length vc] 29)).alloc (.cells #[.int .u64 n', .int .u64 m', .slice sA' ss'.length sc', .slice cA' cs'.length cc', .slice vA' vs'.length vc'] 29) = V := ⟨_, rfl⟩
  obtain ⟨q0, q1, hb0, hsz⟩ := blk2 hV
  have a0 : V.cell? ⟨w.heap.size, 0, none⟩ = some (.int .u64 n) := blk_cell q0 0 _ rfl
  have a1 : V.cell? ⟨w.heap.size, 1, none⟩ = some (.int .u64 m) := blk_cell q0 1 _ rfl
  have a2 : V.cell? ⟨w.heap.size, 2, none⟩ = some (.slice sA ss.length sc) := blk_cell q0 2 _ rfl
  have b0 : V.cell? ⟨w.heap.size + 1, 0, none⟩ = some (.int .u64 n') := blk_cell q1 0 _ rfl
  have b1 : V.cell? ⟨w.heap.size + 1, 1, none⟩ = some (.int .u64 m') := blk_cell q1 1 _ rfl
  have b2 : V.cell? ⟨w.heap.size + 1, 2, none⟩ = some (.slice sA' ss'.length sc') := blk_cell q1 2 _ rfl
  have HB := Lib.hid hb0
  have HS := Lib.hid hsz
  have hs0 : w.heap.size < V.heap.size := by omega
  have hs1 : w.heap.size + 1 < V.heap.size := by omega
  clear q0 q1 hb0 hsz
  go_enter Tryz.func65, Tryz.ntmps65
  go_wp2_with fail
  refine wp_region_noPanic ?_
  refine wp_region_held_drew (S := (fun w' => w'.cell? ⟨w.heap.size, 0, none⟩ = some (.int .u64 n) ∧ w'.cell? ⟨w.heap.size, 1, none⟩ = some (.int .u64 m) ∧ w'.cell? ⟨w.heap.size, 2, none⟩ = some (.slice sA ss.length sc) ∧ w'.cell? ⟨w.heap.size + 1, 0, none⟩ = some (.int .u64 n') ∧ w'.cell? ⟨w.heap.size + 1, 1, none⟩ = some (.int .u64 m') ∧ w'.cell? ⟨w.heap.size + 1, 2, none⟩ = some (.slice sA' ss'.length sc'))) (by kernel_rfl) ?_ (fun hHeld => ?_)
  · (first | exact ⟨a0, a1, a2, b0, b1, b2⟩ | (refine ⟨?_, ?_, ?_, ?_, ?_, ?_⟩ <;> go_simp))
  refine takeH 0 5 (v := ?q1_v0) rfl rfl (by kernel_rfl) (by kernel_rfl) (by kernel_rfl) (fun _ _ _ h => h) (Or.inl ⟨by rfl, ?q1_h0⟩) (by assumption) ?q1_r0
  case q1_h0 => (intro w hSw; (try dsimp only at hSw); go_simp; try (with_reducible rfl))
  simp only [List.set_cons_zero, List.set_cons_succ]
  refine takeH 1 6 (v := ?q1_v1) rfl rfl (by kernel_rfl) (by kernel_rfl) (by kernel_rfl) (fun _ _ _ h => h) (Or.inl ⟨by rfl, ?q1_h1⟩) (by assumption) ?q1_r1
  case q1_h1 => (intro w hSw; (try dsimp only at hSw); go_simp; try (with_reducible rfl))
  simp only [List.set_cons_zero, List.set_cons_succ]
  refine takeH 2 7 (v := ?q1_v2) rfl rfl (by kernel_rfl) (by kernel_rfl) (by kernel_rfl) (fun _ _ _ h => h) (Or.inl ⟨by rfl, ?q1_h2⟩) (by assumption) ?q1_r2
  case q1_h2 => (intro w hSw; (try dsimp only at hSw); go_simp; try (with_reducible rfl))
  simp only [List.set_cons_zero, List.set_cons_succ]
  refine takeH 3 8 (v := ?q1_v3) rfl rfl (by kernel_rfl) (by kernel_rfl) (by kernel_rfl) (fun _ _ _ h => h) (Or.inl ⟨by rfl, ?q1_h3⟩) (by assumption) ?q1_r3
  case q1_h3 => (intro w hSw; (try dsimp only at hSw); go_simp; try (with_reducible rfl))
  simp only [List.set_cons_zero, List.set_cons_succ]
  refine takeH 5 10 (v := ?q1_v5) rfl rfl (by kernel_rfl) (by kernel_rfl) (by kernel_rfl) (fun _ _ _ h => h) (Or.inl ⟨by rfl, ?q1_h5⟩) (by assumption) ?q1_r5
  case q1_h5 => (intro w hSw; (try dsimp only at hSw); go_simp; try (with_reducible rfl))
  simp only [List.set_cons_zero, List.set_cons_succ]
  refine takeH 6 11 (v := ?q1_v6) rfl rfl (by kernel_rfl) (by kernel_rfl) (by kernel_rfl) (fun _ _ _ h => h) (Or.inl ⟨by rfl, ?q1_h6⟩) (by assumption) ?q1_r6
  case q1_h6 => (intro w hSw; (try dsimp only at hSw); go_simp; try (with_reducible rfl))
  simp only [List.set_cons_zero, List.set_cons_succ]
  refine takeH 7 12 (v := ?q1_v7) rfl rfl (by kernel_rfl) (by kernel_rfl) (by kernel_rfl) (fun _ _ _ h => h) (Or.inl ⟨by rfl, ?q1_h7⟩) (by assumption) ?q1_r7
  case q1_h7 => (intro w hSw; (try dsimp only at hSw); go_simp; try (with_reducible rfl))
  simp only [List.set_cons_zero, List.set_cons_succ]
  refine takeH 8 13 (v := ?q1_v8) rfl rfl (by kernel_rfl) (by kernel_rfl) (by kernel_rfl) (fun _ _ _ h => h) (Or.inl ⟨by rfl, ?q1_h8⟩) (by assumption) ?q1_r8
  case q1_h8 => (intro w hSw; (try dsimp only at hSw); go_simp; try (with_reducible rfl))
  simp only [List.set_cons_zero, List.set_cons_succ]
  refine takeH 10 15 (v := ?q1_v10) rfl rfl (by kernel_rfl) (by kernel_rfl) (by kernel_rfl) (fun _ _ _ h => h) (Or.inl ⟨by rfl, ?q1_h10⟩) (by assumption) ?q1_r10
  case q1_h10 => (intro w hSw; (try dsimp only at hSw); go_simp; try (with_reducible rfl))
  simp only [List.set_cons_zero, List.set_cons_succ]
  refine takeH 11 16 (v := ?q1_v11) rfl rfl (by kernel_rfl) (by kernel_rfl) (by kernel_rfl) (fun _ _ _ h => h) (Or.inl ⟨by rfl, ?q1_h11⟩) (by assumption) ?q1_r11
  case q1_h11 => (intro w hSw; (try dsimp only at hSw); go_simp; try (with_reducible rfl))
  simp only [List.set_cons_zero, List.set_cons_succ]
  refine takeH 12 17 (v := ?q1_v12) rfl rfl (by kernel_rfl) (by kernel_rfl) (by kernel_rfl) (fun _ _ _ h => h) (Or.inl ⟨by rfl, ?q1_h12⟩) (by assumption) ?q1_r12
  case q1_h12 => (intro w hSw; (try dsimp only at hSw); go_simp; try (with_reducible rfl))
  simp only [List.set_cons_zero, List.set_cons_succ]
  refine takeH 13 18 (v := ?q1_v13) rfl rfl (by kernel_rfl) (by kernel_rfl) (by kernel_rfl) (fun _ _ _ h => h) (Or.inl ⟨by rfl, ?q1_h13⟩) (by assumption) ?q1_r13
  case q1_h13 => (intro w hSw; (try dsimp only at hSw); go_simp; try (with_reducible rfl))
  simp only [List.set_cons_zero, List.set_cons_succ]
  refine wpAnyH_ready (rs := [4]) (by kernel_rfl) (by simp) ?_
  refine AllReadyH.cons rfl (fun K hK => ?_) AllReadyH.nil
  go_simp
  go_wp2_with (go_at_call 91; refine (compareU_any n n' _).mono ?_; rintro e w4 ⟨rfl, rfl⟩; rw [HP.out])
  refine hK.out _ _ ?_ (fun hHeld => ?_)
  · (first | exact ⟨a0, a1, a2, b0, b1, b2⟩ | (refine ⟨?_, ?_, ?_, ?_, ?_, ?_⟩ <;> go_simp))
  clear hK K
  refine wpAnyH_ready (rs := [9]) (by kernel_rfl) (by simp) ?_
  refine AllReadyH.cons rfl (fun K hK => ?_) AllReadyH.nil
  go_simp
  go_wp2_with (go_at_call 91; refine (compareU_any m m' _).mono ?_; rintro e w4 ⟨rfl, rfl⟩; rw [HQ.out])
  refine hK.out _ _ ?_ (fun hHeld => ?_)
  · (first | exact ⟨a0, a1, a2, b0, b1, b2⟩ | (refine ⟨?_, ?_, ?_, ?_, ?_, ?_⟩ <;> go_simp))
  clear hK K
  refine wpAnyH_ready (rs := [14]) (by kernel_rfl) (by simp) ?_
  refine AllReadyH.cons rfl (fun K hK => ?_) AllReadyH.nil
  go_simp
  go_wp2_with (go_at_call 92; refine (HC.out _ HB.out.drew).mono ?_; rintro e w4 ⟨rfl, rfl⟩; rw [HL.out])
  refine hK.out _ _ ?_ (fun hHeld => ?_)
  · (first | exact ⟨a0, a1, a2, b0, b1, b2⟩ | (refine ⟨?_, ?_, ?_, ?_, ?_, ?_⟩ <;> go_simp))
  clear hK K
  refine wpAnyH_ready (rs := [15]) (by kernel_rfl) (by simp) ?_
  refine AllReadyH.cons rfl (fun K hK => ?_) AllReadyH.nil
  go_simp
  skip
  refine hK.out _ _ ?_ (fun hHeld => ?_)
  · (first | exact ⟨a0, a1, a2, b0, b1, b2⟩ | (refine ⟨?_, ?_, ?_, ?_, ?_, ?_⟩ <;> go_simp))
  clear hK K
  refine wpAnyH_ready (rs := [16]) (by kernel_rfl) (by simp) ?_
  refine AllReadyH.cons rfl (fun K hK => ?_) AllReadyH.nil
  go_simp
  go_wp2_with (go_at_call 90; refine (or3_any _ p q r _ (by simp) (by simp) (by simp)).mono ?_; rintro e w4 ⟨rfl, rfl⟩)
  refine hK.out _ _ ?_ (fun hHeld => ?_)
  · (first | exact ⟨a0, a1, a2, b0, b1, b2⟩ | (refine ⟨?_, ?_, ?_, ?_, ?_, ?_⟩ <;> go_simp))
  clear hK K
  refine takeH 17 4 (v := ?q1_v17) rfl rfl (by kernel_rfl) (by kernel_rfl) (by kernel_rfl) (fun _ _ _ h => h) (Or.inl ⟨by rfl, ?q1_h17⟩) (by assumption) ?q1_r17
  case q1_h17 => (intro w hSw; (try dsimp only at hSw); go_simp; try (with_reducible rfl))
  simp only [List.set_cons_zero, List.set_cons_succ]
  refine wpAnyH_done (by kernel_rfl) ?_ _
  refine NoPanic.normal ?_
  go_wp2_with fail
  go_ret
  exact ⟨rfl, (belAl HB.out).drew⟩
end Go.Proofs.YtdbohojncbeajaaGreat.J5
