/- What join.joinMaps does, if join does what it should for what is inside. What join.seen, joinCauses' question and without do. No condition but that what they take lies in memory, clocks that rise. What slices.Grow, slices.Clone and slices.Concat do with clocks. No condition but that what they take lies in memory. Versions joined: the mathematics, and the marks that are put in place one by one. No condition. -/
import Derived.Test.YtdbohojncbeajaaGreatMo15
import Derived.Shelf.Spec.SlicesGrow
import Derived.LoopN
namespace Go.Proofs.YtdbohojncbeajaaGreat.J5
open Go.RowKit Go.Shelf
open C3 (Tk In belAl allocB)
open V4 (Va Vl Ck LiesC cellsV val_mk er_mk)

theorem row_lies {w : World} {base : Nat} {e : TypeId} {size : Nat} {A : Option Addr} {n c : Nat} {xs : List Value} (h : w.ownsRow base e size (.slice A n c) n xs) : LiesC (fun b => base ≤ b ∧ b < w.heap.size) w A xs ∧ n ≤ c ∧ c ≤ maxLen := by
  have hl := h
  rcases h.2 with ⟨e1, h0⟩ | ⟨g, cap, cur, e1, hb, hg, hnc, hcm, _⟩
  · cases e1
    refine ⟨.inl (List.eq_nil_of_length_eq_zero (by rw [h.1, Nat.zero_mul])), Nat.le_refl _, Nat.zero_le _⟩
  · cases e1
    refine ⟨.inr ⟨g, 0, rfl, ⟨hb, (Array.getElem?_eq_some_iff.1 hg).1⟩, fun i u hu => ?_⟩, hnc, hcm⟩
    have := World.ownsRow.cells hl (g := g) rfl i u hu
    rw [Addr.add_lit] at this
    exact this

theorem allE_marks {M V W : Type} {f : V → V → Option W} : ∀ {l : List (M × V × V)} {r : List (M × W)}, allE f l = some r → r.map (·.1) = l.map (·.1)
  | [], r, h => by simp [allE] at h; subst h; rfl
  | q :: l, r, h => by
    rw [allE] at h
    cases hf : f q.2.1 q.2.2 with
    | none => rw [hf] at h; simp at h
    | some v =>
      rw [hf] at h
      cases ha : allE f l with
      | none => rw [ha] at h; simp at h
      | some x => rw [ha] at h; simp at h; subst h; simp [allE_marks ha]
theorem togE_marks {M V W : Type} {f : V → V → Option W} {l : List (M × V × V)} {r : List (M × W)} (h : togE f l = some r) : r.map (·.1) = l.map (·.1) := by
  unfold togE at h
  split at h
  · cases h
  · exact allE_marks h

theorem zip_er {M : Type} (ss : List M) (vs : List Vl) : (ss.zip vs).map (fun p => (p.1, p.2.er)) = ss.zip (vs.map Vl.er) := by
  induction ss generalizing vs with
  | nil => rfl
  | cons s ss ih => cases vs with
    | nil => rfl
    | cons v vs => simp [ih]

/-- Maps, where they lie, joined. -/
theorem mapE_er (f : Va → Va → Option Va) (x y : Vl) : mapE f x.er y.er = (togE f ((mix cmpSS vlZ (x.er.s.zip x.vs) (y.er.s.zip y.vs)).map er3S)).map fun l => .mk 0 0 (l.map (·.1)) [] (l.map (·.2)) := by
  have h := mix_map (c := cmpSS) (c' := cmpS) (z := vlZ) (z' := Va.zero) id Vl.er (fun _ _ => rfl) vlZ_er (x.er.s.zip x.vs) (y.er.s.zip y.vs)
  unfold mapE
  obtain ⟨n, m, sA, sc, ss, cA, cc, cs, vA, vc, vs⟩ := x
  obtain ⟨n', m', sA', sc', ss', cA', cc', cs', vA', vc', vs'⟩ := y
  rw [er_mk, er_mk] at h ⊢
  simp only [Va.s, Va.v, V4.Vl.vs, id] at h ⊢
  rw [zip_er, zip_er] at h
  rw [← h]
  rfl

/-- Four boxes, one behind the other. -/
theorem blk4 {w V : World} {t0 t1 t2 t3 : TypeId} {c0 c1 c2 c3 : Array Value} (hV : (((w.alloc (.cells c0 t0)).alloc (.cells c1 t1)).alloc (.cells c2 t2)).alloc (.cells c3 t3) = V) :
    Blk V w.heap.size t0 c0 ∧ Blk V (w.heap.size + 1) t1 c1 ∧ Blk V (w.heap.size + 1 + 1) t2 c2 ∧ Blk V (w.heap.size + 1 + 1 + 1) t3 c3 ∧ Below w.heap.size w V ∧ V.heap.size = w.heap.size + 4 := by
  refine ⟨?_, ?_, ?_, ?_, ?_, ?_⟩
  · rw [← hV]; exact (((Blk.new w _ _).below (allocB _ _)).below (allocB _ _)).below (allocB _ _)
  · rw [← hV]
    have := Blk.new (w.alloc (.cells c0 t0)) t1 c1
    rw [World.size_alloc] at this
    exact (this.below (allocB _ _)).below (allocB _ _)
  · rw [← hV]
    have := Blk.new ((w.alloc (.cells c0 t0)).alloc (.cells c1 t1)) t2 c2
    rw [World.size_alloc, World.size_alloc] at this
    exact this.below (allocB _ _)
  · rw [← hV]
    have := Blk.new (((w.alloc (.cells c0 t0)).alloc (.cells c1 t1)).alloc (.cells c2 t2)) t3 c3
    rw [World.size_alloc, World.size_alloc, World.size_alloc] at this
    exact this
  · rw [← hV]; exact belAl (belAl (belAl (belAl (Below.refl _ _))))
  · rw [← hV]; simp

theorem LnS.In.mono {N N' : Nat} {w : World} {L : LnS} (h : L.In N w) (hN : N ≤ N') : L.In N' w :=
  ⟨h.ml.mono fun _ hb => Nat.lt_of_lt_of_le hb hN, h.vl.mono fun _ hb => Nat.lt_of_lt_of_le hb hN, h.cap, h.top, h.dap, h.dop, fun _ _ => trivial, fun p hp => (h.vk p hp).mono fun _ hb => Nat.lt_of_lt_of_le hb hN⟩
theorem LnT.In.mono {N N' : Nat} {w : World} {L : LnT} (h : L.In N w) (hN : N ≤ N') : L.In N' w :=
  ⟨h.ml.mono fun _ hb => Nat.lt_of_lt_of_le hb hN, h.vl.mono fun _ hb => Nat.lt_of_lt_of_le hb hN, h.cap, h.top, h.dap, h.dop, fun p hp => V4.Ck.Inp.mono (h.mo p hp) fun _ hb => Nat.lt_of_lt_of_le hb hN, fun p hp => (h.vk p hp).mono fun _ hb => Nat.lt_of_lt_of_le hb hN⟩

theorem zip_mS {ms : List Str} {vs : List Vl} (hl : ms.length = vs.length) : (ms.zip vs).map (fun p => encS p.1) = V4.cellsS ms ∧ (ms.zip vs).map (·.2) = vs ∧ (ms.zip vs).length = ms.length := by
  have h1 : (ms.zip vs).map Prod.fst = ms := List.map_fst_zip (by omega)
  refine ⟨?_, List.map_snd_zip (by omega), by simp [hl]⟩
  rw [show (fun p : Str × Vl => encS p.1) = encS ∘ Prod.fst from rfl, ← List.map_map, h1]; rfl
theorem lnS_in {w : World} {n m : Int} {sA : Option Addr} {sc : Nat} {ss : List Str} {cA : Option Addr} {cc : Nat} {cs : List Ck} {vA : Option Addr} {vc : Nat} {vs : List Vl} (h : (Vl.mk n m sA sc ss cA cc cs vA vc vs).In w) (hl : ss.length = vs.length) : (LnS.mk sA sc vA vc (ss.zip vs)).In w.heap.size w := by
  obtain ⟨h1, h2, h3⟩ := zip_mS hl
  cases h with
  | mk _ _ _ _ _ _ _ _ _ _ _ hn hm a1 a2 a3 b1 b2 b3 c1 c2 c3 =>
    exact ⟨by show LiesC _ _ _ _; rw [h1]; exact a1, by show LiesC _ _ _ _; rw [h2]; exact c1, by show List.length _ ≤ _; rw [h3]; exact a2.1, a2.2.1, by show List.length _ ≤ _; rw [h3, hl]; exact c2.1, c2.2.1, fun p hp => trivial, fun p hp => c3 _ (List.of_mem_zip hp).2⟩
theorem lnS_val (sA : Option Addr) (sc : Nat) {ss : List Str} (vA : Option Addr) (vc : Nat) {vs : List Vl} (hl : ss.length = vs.length) : (LnS.mk sA sc vA vc (ss.zip vs)).val = .agg #[.slice sA ss.length sc, .slice vA vs.length vc] := by
  unfold LnS.val
  rw [(zip_mS hl).2.2, hl]

theorem zip_mT {ms : List Ck} {vs : List Vl} (hl : ms.length = vs.length) : (ms.zip vs).map (fun p => encT p.1) = V4.cellsC ms ∧ (ms.zip vs).map (·.2) = vs ∧ (ms.zip vs).length = ms.length := by
  have h1 : (ms.zip vs).map Prod.fst = ms := List.map_fst_zip (by omega)
  refine ⟨?_, List.map_snd_zip (by omega), by simp [hl]⟩
  rw [show (fun p : Ck × Vl => encT p.1) = encT ∘ Prod.fst from rfl, ← List.map_map, h1]; rfl
theorem lnT_in {w : World} {n m : Int} {sA : Option Addr} {sc : Nat} {ss : List Str} {cA : Option Addr} {cc : Nat} {cs : List Ck} {vA : Option Addr} {vc : Nat} {vs : List Vl} (h : (Vl.mk n m sA sc ss cA cc cs vA vc vs).In w) (hl : cs.length = vs.length) : (LnT.mk cA cc vA vc (cs.zip vs)).In w.heap.size w := by
  obtain ⟨h1, h2, h3⟩ := zip_mT hl
  cases h with
  | mk _ _ _ _ _ _ _ _ _ _ _ hn hm a1 a2 a3 b1 b2 b3 c1 c2 c3 =>
    exact ⟨by show LiesC _ _ _ _; rw [h1]; exact b1, by show LiesC _ _ _ _; rw [h2]; exact c1, by show List.length _ ≤ _; rw [h3]; exact b2.1, b2.2.1, by show List.length _ ≤ _; rw [h3, hl]; exact c2.1, c2.2.1, fun p hp => b3 _ (List.of_mem_zip hp).1, fun p hp => c3 _ (List.of_mem_zip hp).2⟩
theorem lnT_val (cA : Option Addr) (cc : Nat) {cs : List Ck} (vA : Option Addr) (vc : Nat) {vs : List Vl} (hl : cs.length = vs.length) : (LnT.mk cA cc vA vc (cs.zip vs)).val = .agg #[.slice cA cs.length cc, .slice vA vs.length vc] := by
  unfold LnT.val
  rw [(zip_mT hl).2.2, hl]

/-- A value put into a box. -/
def set5 (W : World) (D : Nat) (v0 v1 v2 v3 v4 : Value) : World := ((((W.setCell ⟨D, 0, none⟩ v0).setCell ⟨D, 1, none⟩ v1).setCell ⟨D, 2, none⟩ v2).setCell ⟨D, 3, none⟩ v3).setCell ⟨D, 4, none⟩ v4
section
variable {w W : World} {D N : Nat} {v0 v1 v2 v3 v4 z0 z1 z2 z3 z4 : Value} {t : TypeId}
theorem set5_blk (h : Blk W D t #[z0, z1, z2, z3, z4]) : Blk (set5 W D v0 v1 v2 v3 v4) D t #[v0, v1, v2, v3, v4] := ((((h.set 0 v0).set 1 v1).set 2 v2).set 3 v3).set 4 v4
theorem set5_low {b : Nat} (h : b ≠ D) : (set5 W D v0 v1 v2 v3 v4).heap[b]? = W.heap[b]? := by
  unfold set5
  iterate 5 rw [Below.heap_setCell _ _ _ _ (by simpa using h)]
theorem set5_size : (set5 W D v0 v1 v2 v3 v4).heap.size = W.heap.size := by unfold set5; simp
theorem set5_bel (h : Below N w W) (hD : N ≤ D) : Below N w (set5 W D v0 v1 v2 v3 v4) := ((((h.setCell hD v0).setCell hD v1).setCell hD v2).setCell hD v3).setCell hD v4
end

theorem Hd.valS {base : Nat} {X : Nat → Prop} {A A2 : Option Addr} {n c c2 : Nat} {out : List (Str × Vl)} {U : World} (h : Hd encS 9 base X (.slice A n c) (.slice A2 n c2) out U) (hn : n = out.length) (hl : out.length ≤ 40) (hm : ∀ p ∈ out, p.1.length ≤ maxLen) :
    (Vl.mk 0 0 A c (out.map (·.1)) none 0 [] A2 c2 (out.map (·.2))).Inp (fun b => base ≤ b ∧ b < U.heap.size) U := by
  subst hn
  obtain ⟨a1, a2, a3⟩ := row_lies h.rm
  obtain ⟨b1, b2, b3⟩ := row_lies h.rv
  refine .mk _ _ _ _ _ _ _ _ _ _ _ (by omega) (by omega) ?_ (by simp only [List.length_map]; omega) ?_ (.inl rfl) (by simp) (by simp) b1 (by simp only [List.length_map]; omega) ?_
  · simpa [V4.cellsS, encS, Function.comp_def] using a1
  · intro s hs; obtain ⟨p, hp, rfl⟩ := List.mem_map.1 hs; exact hm p hp
  · intro x hx; obtain ⟨p, hp, rfl⟩ := List.mem_map.1 hx; exact (h.vk p hp).mono fun b hP => ⟨hP.1, hP.2.1⟩

set_option maxHeartbeats 2000000 in
theorem joinMaps_any (s : S2.Sc) (x y : Vl) (f : Va → Va → Option Va) (w : World) (hx : x.In w) (hy : y.In w) (lx : x.er.s.length = x.vs.length) (ly : y.er.s.length = y.vs.length)
    (hj : ∀ u v : Vl, (u ∈ x.vs ∨ u = vlZ) → (v ∈ y.vs ∨ v = vlZ) → ∀ W : World, Below w.heap.size w W → Calls Tryz.prog 31 #[s.val, u.val, v.val] W (RetJ W (f u.er v.er))) :
    Calls Tryz.prog 45 #[s.val, x.val, y.val] w (RetJ w (mapE f x.er y.er)) := by
  rw [mapE_er]
  obtain ⟨sk, sA0, sc0, sl⟩ := s
  obtain ⟨n, m, sA, sc, ss, cA, cc, cs, vA, vc, vs⟩ := x
  obtain ⟨n', m', sA', sc', ss', cA', cc', cs', vA', vc', vs'⟩ := y
  rw [er_mk] at lx ly ⊢
  rw [er_mk]
  simp only [Va.s, V4.Vl.vs] at lx ly hj ⊢
  have HBS := Lib.hid (fun W h1 h2 => besideS_any (.mk sA sc vA vc (ss.zip vs)) (.mk sA' sc' vA' vc' (ss'.zip vs')) W h1 h2)
  rw [lnS_val _ _ _ _ lx, lnS_val _ _ _ _ ly] at HBS
  obtain ⟨zs, hzs⟩ : ∃ zs, mix cmpSS vlZ (ss.zip vs) (ss'.zip vs') = zs := ⟨_, rfl⟩
  have HLI := Lib.hid (lnS_in hx lx)
  have HKI := Lib.hid (lnS_in hy ly)
  have HZ := Lib.hid hzs
  have HM : Hid (∀ p ∈ zs, (p.2.1 ∈ vs ∨ p.2.1 = vlZ) ∧ (p.2.2 ∈ vs' ∨ p.2.2 = vlZ) ∧ (p.1 ∈ ss ∨ p.1 ∈ ss')) := fun p hp => by
    obtain ⟨h1, h2, h3⟩ := mix_mem cmpSS vlZ _ _ (hzs ▸ hp)
    exact ⟨h1.imp (fun ⟨q, hq, e⟩ => e ▸ (List.of_mem_zip hq).2) id, h2.imp (fun ⟨q, hq, e⟩ => e ▸ (List.of_mem_zip hq).2) id, h3.imp (fun ⟨q, hq, e⟩ => e ▸ (List.of_mem_zip hq).1) (fun ⟨q, hq, e⟩ => e ▸ (List.of_mem_zip hq).1)⟩
  have HSL := Lib.hid (And.intro hx.out.st hy.out.st)
  have HJ := Lib.hid hj
  rw [hzs] at HBS ⊢
  clear hzs hj hx hy lx ly
  simp only [S2.Sc.val, val_mk] at HJ ⊢
  obtain ⟨V, hV⟩ : ∃ V, (((w.alloc (.cells #[.int .i64 sk, .slice sA0 sl.length sc0] 37)).alloc (.cells #[.int .u64 n, .int .u64 m, .slice sA ss.length sc, .slice cA cs.length cc, .slice vA vs.length vc] 29)).alloc (.cells #[.int .u64 n', .int .u64 m', .slice sA' ss'.length sc', .slice cA' cs'.length cc', .slice vA' vs'.length vc'] 29)).alloc (.cells #[.int .u64 0, .int .u64 0, .slice none 0 0, .slice none 0 0, .slice none 0 0] 29) = V := ⟨_, rfl⟩
  obtain ⟨q3, q4, q5, q6, hbV, hsV⟩ := blk4 hV
  have e0 : V.cell? ⟨w.heap.size + 1, 2, none⟩ = some (.slice sA ss.length sc) := blk_cell q4 2 _ rfl
  have e1 : V.cell? ⟨w.heap.size + 1, 4, none⟩ = some (.slice vA vs.length vc) := blk_cell q4 4 _ rfl
  have e2 : V.cell? ⟨w.heap.size + 1 + 1, 2, none⟩ = some (.slice sA' ss'.length sc') := blk_cell q5 2 _ rfl
  have e3 : V.cell? ⟨w.heap.size + 1 + 1, 4, none⟩ = some (.slice vA' vs'.length vc') := blk_cell q5 4 _ rfl
  have HLV := Lib.hid ((HLI.out.keep hbV).mono (N' := V.heap.size) (by omega))
  have HKV := Lib.hid ((HKI.out.keep hbV).mono (N' := V.heap.size) (by omega))
  clear HLI HKI
  go_enter Tryz.func45, Tryz.ntmps45
  go_wp2_with fail
  refine (HBS.out V HLV.out HKV.out).mono ?_
  rintro e W ⟨b1, b2, b3, rfl, hb1, hseq⟩
  have HSQ := Lib.hid (hseq W.heap.size W (Below.refl _ _) (Nat.le_refl _) (Nat.le_refl _))
  have hbW : Below w.heap.size w W := hbV.trans (hb1.mono (by omega))
  have HT := Lib.hid (togetherS_any (.mk sk sA0 sc0 sl) #[.pointer (some ⟨b1, 0, none⟩), .pointer (some ⟨b2, 0, none⟩), .pointer (some ⟨b3, 0, none⟩)] f zs W HSQ.out fun x hx W' hb => HJ.out _ _ (HM.out x hx).1 (HM.out x hx).2.1 W' (hbW.trans (hb.mono hbW.size)))
  have q3W := q3.below hb1
  have q6W := q6.below hb1
  clear e0 e1 e2 e3 hseq HSQ HBS HLV HKV HJ q3 q4 q5 q6
  have e0 : W.cell? ⟨w.heap.size, 0, none⟩ = some (.int .i64 sk) := blk_cell q3W 0 _ rfl
  have e1 : W.cell? ⟨w.heap.size, 1, none⟩ = some (.slice sA0 sl.length sc0) := blk_cell q3W 1 _ rfl
  have hsW := hb1.size
  go_wp2_with fail
  refine HT.out.mono ?_
  clear e0 e1 q3W HT hb1
  rintro e U (⟨vm, vv, out, ho, rfl, hH, hl40, hb2⟩ | ⟨ho, rfl, hb2⟩)
  · obtain ⟨A, c, rfl, _⟩ := row_form hH.rm
    obtain ⟨A2, c2, rfl, _⟩ := row_form hH.rv
    have q6U := q6W.below hb2
    have hsU := hb2.size
    have HO := Lib.hid ho
    have HH := Lib.hid hH
    clear ho hH q6W
    obtain ⟨U1, hU1⟩ : ∃ U1, U.alloc (.cells #[.slice A out.length c, .slice A2 out.length c2] 116) = U1 := ⟨_, rfl⟩
    have hbU1 : Below U.heap.size U U1 := by rw [← hU1]; exact allocB _ _
    have q9 : Blk U1 U.heap.size 116 #[.slice A out.length c, .slice A2 out.length c2] := by rw [← hU1]; exact Blk.new _ _ _
    have q6U1 := q6U.below hbU1
    have e0 : U1.cell? ⟨U.heap.size, 0, none⟩ = some (.slice A out.length c) := blk_cell q9 0 _ rfl
    have e1 : U1.cell? ⟨U.heap.size, 1, none⟩ = some (.slice A2 out.length c2) := blk_cell q9 1 _ rfl
    have d0 : U1.cell? ⟨w.heap.size + 1 + 1 + 1, 0, none⟩ = some (.int .u64 0) := blk_cell q6U1 0 _ rfl
    have d1 : U1.cell? ⟨w.heap.size + 1 + 1 + 1, 1, none⟩ = some (.int .u64 0) := blk_cell q6U1 1 _ rfl
    have d2 : U1.cell? ⟨w.heap.size + 1 + 1 + 1, 2, none⟩ = some (.slice none 0 0) := blk_cell q6U1 2 _ rfl
    have d3 : U1.cell? ⟨w.heap.size + 1 + 1 + 1, 3, none⟩ = some (.slice none 0 0) := blk_cell q6U1 3 _ rfl
    have d4 : U1.cell? ⟨w.heap.size + 1 + 1 + 1, 4, none⟩ = some (.slice none 0 0) := blk_cell q6U1 4 _ rfl
    have f0 := blk_frozen q6U1 0
    have f1 := blk_frozen q6U1 1
    have f2 := blk_frozen q6U1 2
    have f3 := blk_frozen q6U1 3
    have f4 := blk_frozen q6U1 4
    go_wp2_with fail
    refine bodyPost_ret (results_cv rfl _ _ (w.heap.size + 1 + 1 + 1) (.int .u64 0) (.int .u64 0) (.slice A out.length c) (.slice none 0 0) (.slice A2 out.length c2) rfl (blk_cell (set5_blk q6U1) 0 _ rfl) (blk_cell (set5_blk q6U1) 1 _ rfl) (blk_cell (set5_blk q6U1) 2 _ rfl) (blk_cell (set5_blk q6U1) 3 _ rfl) (blk_cell (set5_blk q6U1) 4 _ rfl)) rfl ?_
    have hmk := togE_marks HO.out
    have hmm : ∀ p ∈ out, p.1.length ≤ maxLen := fun p hp => by
      have h1 : p.1 ∈ (out.map er2S).map (·.1) := by rw [List.map_map]; exact List.mem_map.2 ⟨p, hp, rfl⟩
      rw [hmk, List.map_map] at h1
      obtain ⟨q, hq, e⟩ := List.mem_map.1 h1
      rw [← e]
      rcases (HM.out q hq).2.2 with h | h
      · exact HSL.out.1 _ h
      · exact HSL.out.2 _ h
    refine .inl ⟨.mk 0 0 A c (out.map (·.1)) none 0 [] A2 c2 (out.map (·.2)), ?_, ?_, ((HH.out.valS rfl hl40 hmm).keep fun b hP => ?_).mono fun b hP => ⟨by omega, ?_⟩, set5_bel ((hbW.trans (hb2.mono (by omega))).trans (hbU1.mono (by omega))) (by omega)⟩
    · rw [HO.out, er_mk]
      simp [er2S, Function.comp_def]
    · simp [val_mk]
    · exact (set5_low (by omega)).trans (hbU1.block b hP.2)
    · have := hbU1.size
      have h5 := set5_size (W := U1) (D := w.heap.size + 1 + 1 + 1) (v0 := .int .u64 0) (v1 := .int .u64 0) (v2 := .slice A out.length c) (v3 := .slice none 0 0) (v4 := .slice A2 out.length c2)
      exact Nat.lt_of_lt_of_le (Nat.lt_of_lt_of_le hP.2 this) (Nat.le_of_eq h5.symm)
  · have q6U := q6W.below hb2
    have hsU := hb2.size
    have HO := Lib.hid ho
    clear ho q6W
    obtain ⟨U1, hU1⟩ : ∃ U1, U.alloc (.cells #[.slice none 0 0, .slice none 0 0] 116) = U1 := ⟨_, rfl⟩
    have hbU1 : Below U.heap.size U U1 := by rw [← hU1]; exact allocB _ _
    have q9 : Blk U1 U.heap.size 116 #[.slice none 0 0, .slice none 0 0] := by rw [← hU1]; exact Blk.new _ _ _
    have q6U1 := q6U.below hbU1
    have e0 : U1.cell? ⟨U.heap.size, 0, none⟩ = some (.slice none 0 0) := blk_cell q9 0 _ rfl
    have e1 : U1.cell? ⟨U.heap.size, 1, none⟩ = some (.slice none 0 0) := blk_cell q9 1 _ rfl
    have g0 := blk_frozen q9 0
    have g1 := blk_frozen q9 1
    have d0 : U1.cell? ⟨w.heap.size + 1 + 1 + 1, 0, none⟩ = some (.int .u64 0) := blk_cell q6U1 0 _ rfl
    have d1 : U1.cell? ⟨w.heap.size + 1 + 1 + 1, 1, none⟩ = some (.int .u64 0) := blk_cell q6U1 1 _ rfl
    have d2 : U1.cell? ⟨w.heap.size + 1 + 1 + 1, 2, none⟩ = some (.slice none 0 0) := blk_cell q6U1 2 _ rfl
    have d3 : U1.cell? ⟨w.heap.size + 1 + 1 + 1, 3, none⟩ = some (.slice none 0 0) := blk_cell q6U1 3 _ rfl
    have d4 : U1.cell? ⟨w.heap.size + 1 + 1 + 1, 4, none⟩ = some (.slice none 0 0) := blk_cell q6U1 4 _ rfl
    have f0 := blk_frozen q6U1 0
    have f1 := blk_frozen q6U1 1
    have f2 := blk_frozen q6U1 2
    have f3 := blk_frozen q6U1 3
    have f4 := blk_frozen q6U1 4
    have q6X := (q6U1.other (b := U.heap.size) (by omega) 0 (.slice none 0 0)).other (b := U.heap.size) (by omega) 1 (.slice none 0 0)
    go_wp2_with fail
    refine bodyPost_ret (results_cv rfl _ _ (w.heap.size + 1 + 1 + 1) (.int .u64 0) (.int .u64 0) (.slice none 0 0) (.slice none 0 0) (.slice none 0 0) rfl (blk_cell (set5_blk q6X) 0 _ rfl) (blk_cell (set5_blk q6X) 1 _ rfl) (blk_cell (set5_blk q6X) 2 _ rfl) (blk_cell (set5_blk q6X) 3 _ rfl) (blk_cell (set5_blk q6X) 4 _ rfl)) rfl ?_
    refine .inr ⟨by rw [HO.out]; rfl, rfl, set5_bel (((((hbW.trans (hb2.mono (by omega))).trans (hbU1.mono (by omega))).setCell ?_ _).setCell ?_ _)) (by omega)⟩ <;> (simp only; omega)
end Go.Proofs.YtdbohojncbeajaaGreat.J5

namespace Go.Proofs.YtdbohojncbeajaaGreat.J5
open Go.RowKit Go.Shelf
open C3 (Tk In Asc cmpC belAl allocB)
open V4 (Va Vl Ck LiesC cellsC InC val_mk)

set_option maxHeartbeats 400000 in
theorem seen_any (m : Ck) (A : Option Addr) (c : Nat) (cs : List Ck) (w : World) (hm : InC w m) (am : Asc m.l) (lm : m.l.length ≤ 1000) (hl : LiesC (fun b => b < w.heap.size) w A (cellsC cs)) (hn : cs.length ≤ maxLen) (ht : ∀ k ∈ cs, InC w k ∧ Asc k.l ∧ k.l.length ≤ 1000) :
    Calls Tryz.prog 75 #[m.v, .slice A cs.length c] w (RetV w (.bool (cs.any (seenC m)))) := by
  obtain ⟨V, hV⟩ : ∃ V, w.alloc (.cells #[m.v] 44) = V := ⟨_, rfl⟩
  have hb : Below w.heap.size w V := by rw [← hV]; exact allocB _ _
  have hq : Blk V w.heap.size 44 #[m.v] := by rw [← hV]; exact Blk.new _ _ _
  have HC := Lib.hid (containsSeen_any m w.heap.size A c cs V (hm.later hb) am lm (blk_cell hq 0 _ rfl) hq.lt ((hl.below hb).mono fun _ h => Nat.lt_of_lt_of_le h hb.size) hn fun k hk => ⟨(ht k hk).1.later hb, (ht k hk).2⟩)
  clear hm am lm hl hn ht hq
  obtain ⟨r, hr⟩ : ∃ r, cs.any (seenC m) = r := ⟨_, rfl⟩
  rw [hr] at HC ⊢
  clear hr
  obtain ⟨mA, mc, ml⟩ := m
  simp only [V4.Ck.v] at HC hV ⊢
  go_enter Tryz.func75, Tryz.ntmps75
  go_wp2_with fail
  refine HC.out.mono ?_
  rintro e w' ⟨rfl, hb2⟩
  go_wp2_with fail
  go_ret
  exact ⟨rfl, hb.trans (hb2.mono hb.size)⟩

set_option maxHeartbeats 1000000 in
theorem question_any (x : Ck × Vl × Vl) (Bc : Nat) (A : Option Addr) (c : Nat) (cs : List Ck) (w : World) (hm : InC w x.1) (am : Asc x.1.l) (lm : x.1.l.length ≤ 1000) (hl : LiesC (fun b => b < w.heap.size) w A (cellsC cs)) (hn : cs.length ≤ maxLen) (ht : ∀ k ∈ cs, InC w k ∧ Asc k.l ∧ k.l.length ≤ 1000)
    (hc : w.cell? ⟨Bc, 0, none⟩ = some (.slice A cs.length c)) :
    Calls Tryz.prog 74 #[.agg (cellsT x), .pointer (some ⟨Bc, 0, none⟩)] w (RetV w (.bool (cs.any (seenC x.1)))) := by
  obtain ⟨V, hV⟩ : ∃ V, w.alloc (.cells (cellsT x) 136) = V := ⟨_, rfl⟩
  have hb : Below w.heap.size w V := by rw [← hV]; exact allocB _ _
  have hq : Blk V w.heap.size 136 (cellsT x) := by rw [← hV]; exact Blk.new _ _ _
  have HC := Lib.hid (seen_any x.1 A c cs V (hm.later hb) am lm ((hl.below hb).mono fun _ h => Nat.lt_of_lt_of_le h hb.size) hn fun k hk => ⟨(ht k hk).1.later hb, (ht k hk).2⟩)
  have hcV := (hb.cell (p := ⟨Bc, 0, none⟩) (World.block_lt_of_cell? w _ hc)).trans hc
  clear hm am lm hl hn ht hc
  obtain ⟨r, hr⟩ : ∃ r, cs.any (seenC x.1) = r := ⟨_, rfl⟩
  rw [hr] at HC ⊢
  clear hr
  obtain ⟨⟨mA, mc, ml⟩, ⟨an, aM, asA, asc, ass, acA, acc, acs, avA, avc, avs⟩, bn, bM, bsA, bsc, bss, bcA, bcc, bcs, bvA, bvc, bvs⟩ := x
  simp only [cellsT, encT, V4.Ck.v, V4.Vl.n, V4.Vl.m, V4.Vl.s1, V4.Vl.c1, V4.Vl.v1] at HC hV hq ⊢
  have e0 : V.cell? ⟨w.heap.size, 0, none⟩ = some (.slice mA ml.length mc) := blk_cell hq 0 _ rfl
  clear hq
  go_enter Tryz.func74, Tryz.ntmps74
  go_wp2_with fail
  refine HC.out.mono ?_
  rintro e w' ⟨rfl, hb2⟩
  go_wp2_with fail
  go_ret
  exact ⟨rfl, hb.trans (hb2.mono hb.size)⟩

set_option maxHeartbeats 400000 in
/-- without makes its iterator. -/
theorem without_any (u v : Value) (lb lc : Array Value) (g h : FuncId) (hu : u = .func (.func g) #[] lb) (hv : v = .func (.func h) #[] lc) (w : World) :
    Calls Tryz.prog 73 #[u, v] w fun e w' => e = .returned (.func (.func 102) #[] #[.pointer (some ⟨w.heap.size, 0, none⟩), .pointer (some ⟨w.heap.size + 1, 0, none⟩)]) ∧
      (w.alloc (.cells #[u] 128)).alloc (.cells #[v] 138) = w' := by
  subst hu
  subst hv
  go_enter Tryz.func73, Tryz.ntmps73
  go_wp2_with fail
  go_ret
  exact ⟨rfl, rfl⟩
end Go.Proofs.YtdbohojncbeajaaGreat.J5

namespace Go.Proofs.YtdbohojncbeajaaGreat.J5
open Go.RowKit Go.Shelf
open C3 (Tk In Asc cmpC belAl allocB OwnT)
open V4 (Va Vl Ck LiesC cellsC cellsC_len InC val_mk)

def Tryz.growT_ren : Go.Shelf.Ren := ⟨fun | 4 => 93 | n => n, fun | 22 => 26 | 25 => 44 | 3 => 3 | 4 => 4 | 9 => 9 | 20 => 20 | 0 => 0 | n => n, fun | n => n⟩
theorem Tryz.growT : Go.Proofs.Lays8.n4 Tryz.prog Tryz.growT_ren := {
  mixed := by kernel_rfl
  f4 := ⟨Tryz.f93.name, by decide, Tryz.func93.trans (congrArg some (by kernel_rfl))⟩
  t0 := Tryz.underlying0
  a0 := Tryz.isAgg0
  z0 := Tryz.sizeOf0
  v0 := Tryz.zeroValue0
  t3 := Tryz.underlying3
  a3 := Tryz.isAgg3
  z3 := Tryz.sizeOf3
  v3 := Tryz.zeroValue3
  t4 := Tryz.underlying4
  a4 := Tryz.isAgg4
  z4 := Tryz.sizeOf4
  v4 := Tryz.zeroValue4
  t9 := Tryz.underlying9
  a9 := Tryz.isAgg9
  z9 := Tryz.sizeOf9
  v9 := Tryz.zeroValue9
  t20 := Tryz.underlying20
  a20 := Tryz.isAgg20
  z20 := Tryz.sizeOf20
  v20 := Tryz.zeroValue20
  t22 := Tryz.underlying26
  a22 := Tryz.isAgg26
  z22 := Tryz.sizeOf26
  v22 := Tryz.zeroValue26 }

/-- A row of clocks that the call owns. -/
abbrev OwnC (w : World) (base : Nat) (v : Value) (cs : List Ck) : Prop := w.ownsRow base 44 1 v cs.length (cellsC cs)

theorem growT_any (n : Nat) (hn : n ≤ 100000) (w : World) :
    Calls Tryz.prog 93 #[.slice none 0 0, .int .i64 n] w fun e w' => ∃ v, e = .returned v ∧ OwnC w' w.heap.size v [] ∧ Below w.heap.size w w' := by
  obtain ⟨i0, hi, hz0, hz1, hz2⟩ := info_parts Tryz.infoTs
  rcases Nat.eq_zero_or_pos n with rfl | hp
  · refine (Any8.slices_Grow_room Tryz.growT none 0 0 0 w (by omega) (by omega) (by omega) (by omega)).mono ?_
    rintro e w' ⟨rfl, rfl⟩
    exact ⟨_, rfl, World.ownsRow_nil _ _ _ _, Below.refl _ _⟩
  · refine (Any8.slices_Grow_grow Tryz.growT i0 _ hi hz0 (by omega) none 0 0 n [] w (by omega) (by omega) (by rw [hz2]; omega) (by omega) (by simp) (fun _ => rfl) (fun _ h => by cases h)).mono ?_
    rintro e w' ⟨rfl, rfl⟩
    refine ⟨_, rfl, World.ownsRow_made w.drew _ _ (Nat.le_refl _) (grownCap_le_maxLen _ _ _ _ (by unfold maxLen; omega)) ?_, belAl ⟨rfl, rfl, rfl, Nat.le_refl _, fun _ _ => rfl⟩⟩
    have := grownCap_ge w (0 + n) 0 44
    simp only [Array.size_append, size_zeroCells, List.size_toArray, List.length_nil]
    show _ = grownCap w (0 + n) 0 44 * 1
    simp only [Value.cells, List.size_toArray, List.length_cons, List.length_nil]
    show 0 + (0 + n - 0) * 1 + (grownCap w (0 + n) 0 44 - (0 + n)) * 1 = _
    omega

section
variable (w : World)
theorem run_appC_nil (base : Nat) (t ty : TypeId) (ht : Tryz.prog.underlying t = some (.slice 44)) (v : Value) (ys : List Ck) (hown : OwnC w base v ys) (c : Nat) :
    (Builtin.append_ #[t, t] ty #[v, .slice none 0 c]).run Tryz.prog w = .ok v w := by
  obtain ⟨i0, hi, hz0, hz1, hz2⟩ := info_parts Tryz.infoTs
  rcases hown.2 with ⟨rfl, _⟩ | ⟨g, cap, cur, rfl, _, _, hnc, _⟩
  · simp [Builtin.append_, run_underlying ht, sizeOf, typeInfo, hi, Builtin.lenOf, Builtin.firstCells]
  · simp [Builtin.append_, run_underlying ht, sizeOf, typeInfo, hi, Builtin.lenOf, Builtin.firstCells, hnc, storeCells]

/-- append onto a row of the call's own, of whatever clocks. -/
theorem run_appC (base : Nat) (t ty : TypeId) (ht : Tryz.prog.underlying t = some (.slice 44)) (v : Value) (ys : List Ck) (hown : OwnC w base v ys)
    (P : Nat → Prop) (A : Option Addr) (c : Nat) (news : List Ck) (hl : LiesC P w A (cellsC news)) (hlen : ys.length + news.length ≤ 1000000) (hbase : base ≤ w.heap.size) :
    ∃ v' w', (Builtin.append_ #[t, t] ty #[v, .slice A news.length c]).run Tryz.prog w = .ok v' w' ∧ OwnC w' base v' (ys ++ news) ∧ w.grownBy w' v.ownBlock ∧
      (v'.ownBlock = v.ownBlock ∨ v'.ownBlock = some w.heap.size) := by
  obtain ⟨i0, hi, hz0, hz1, hz2⟩ := info_parts Tryz.infoTs
  cases A with
  | none =>
    have hn : news = [] := by
      rcases hl with h | ⟨b, off, h, _⟩
      · exact List.map_eq_nil_iff.1 h
      · cases h
    subst hn
    exact ⟨v, w, run_appC_nil w base t ty ht v ys hown c, by simpa using hown, World.grownBy.refl w _, .inl rfl⟩
  | some a =>
    have hcells : ∀ j u, (cellsC news)[j]? = some u → w.cell? (a.add j) = some u := by
      intro j u hu
      rcases hl with h | ⟨b, off, h, _, hc⟩
      · rw [h] at hu; simp at hu
      · cases h
        rw [Addr.add_lit]
        exact hc j u hu
    have h1 : ∀ u ∈ cellsC news, u.oneCell' = true := fun u hu => by
      obtain ⟨k, _, rfl⟩ := List.mem_map.1 hu
      rfl
    obtain ⟨v', w', hr, h2, h3, _, h5⟩ := run_append_own_at (P := Tryz.prog) w base t ty 44 i0 _ 1 24 ht hi hz0 hz1 hz2 rfl (by omega) v ys.length (cellsC ys) hown a news.length c (cellsC news)
      (by rw [cellsC_len, Nat.mul_one]) hcells h1 (by unfold maxLen; omega) (by omega) hbase
    refine ⟨v', w', hr, ?_, h3, h5⟩
    unfold OwnC cellsC at *
    rw [List.map_append, List.length_append]
    exact h2

variable {o : Oper} {a : Act} {K : Act → World → Prop} {Q : Exit → Act → World → Prop}
theorem wpList_appC {ops : Array Oper} {rest : List Oper} (hgd : o.guard = none) (s x : Operand) (t : TypeId) (ho : o.op = .call { callee := .builtin .append, args := #[s, x], argTypes := #[t, t] })
    (base : Nat) (ht : Tryz.prog.underlying t = some (.slice 44)) (v : Value) (ys : List Ck) (hs : a.eval s = v) (hown : OwnC w base v ys)
    (P : Nat → Prop) (A : Option Addr) (m c : Nat) (news : List Ck) (hm : news.length = m) (hx : a.eval x = .slice A m c) (hl : LiesC P w A (cellsC news)) (hlen : ys.length + news.length ≤ 1000000) (hbase : base ≤ w.heap.size)
    (h : ∀ v' w', OwnC w' base v' (ys ++ news) → w.grownBy w' v.ownBlock → wpList Tryz.prog ops Q rest (a.put o.dst v') w') : wpList Tryz.prog ops Q (o :: rest) a w := by
  refine wpList_plain hgd fun K hK => ?_
  subst hm
  obtain ⟨v', w', hr, h2, h3, h4⟩ := run_appC w base t o.type ht v ys hown P A c news hl hlen hbase
  unfold Oper.wp execOp
  simp only [ho, resolve, invoke, builtin, Sem.run_bind, Sem.run_pure, Result.andThen_ok, List.map_toArray, List.map_cons, List.map_nil, hs, hx, hr]
  exact hK _ _ (h v' w' h2 h3)
end

set_option maxHeartbeats 400000 in
set_option maxRecDepth 100000 in
/-- A clock of the call's own. -/
theorem cloneT_any (k : Ck) (w : World) (hk : InC w k) (h1 : k.l.length ≤ 1000) :
    Calls Tryz.prog 76 #[k.v] w fun e w' => ∃ k' : Ck, e = .returned k'.v ∧ k'.l = k.l ∧ k'.Inp (fun b => w.heap.size ≤ b ∧ b < w'.heap.size) w' ∧ Below w.heap.size w w' := by
  obtain ⟨A, c, l⟩ := k
  simp only [V4.Ck.v] at h1 ⊢
  have q55 : ∀ (w : World) (a : Option Addr) (n c n' c' : Nat), (binOp .eql 44 (.slice a n c) (.slice none n' c')).run Tryz.prog w = .ok (.bool a.isNone) w := fun w a n c n' c' => Lib.run_eql_slice_nil w _ _ a n c n' c' Tryz.underlying44
  cases A with
  | none =>
    have hl : l = [] := by
      rcases hk.lies with h | ⟨b, off, h, _⟩
      · cases l with
        | nil => rfl
        | cons x l => simp [C3.cellsT] at h
      · cases h
    subst hl
    go_enter Tryz.func76, Tryz.ntmps76
    go_wp2_with fail
    go_ret
    exact ⟨⟨none, 0, []⟩, rfl, rfl, ⟨.inl rfl, Nat.le_refl _, Nat.zero_le _, (fun _ hx => (by cases hx)), (by simp)⟩, Below.refl _ _⟩
  | some a =>
    have HL := Lib.hid (hk.inn)
    have HK := Lib.hid hk
    clear hk
    go_enter Tryz.func76, Tryz.ntmps76
    go_wp2_with (at_builtin; refine C3.wpList_app _ rfl (.tmp 5) (.tmp 6) 44 rfl w.heap.size Tryz.underlying44 _ [] rfl (World.ownsRow_made w #[] 0 (Nat.le_refl _) (Nat.zero_le _) (by simp)) w.heap.size (some a) l.length c l rfl rfl ?q1 ?q2 (by simp) ?_)
    case q1 => exact HL.out.lies.below (allocB _ _)
    case q2 => omega
    intro v1 w1 hown hg _
    have hb : Below w.heap.size w w1 := ((Below.refl _ w).alloc (Nat.le_refl _) _).grown hg (by simp) (by intro k hk; simp [Value.ownBlock] at hk; omega)
    clear hg
    go_wp2
    go_ret
    obtain ⟨A, c', rfl, _⟩ := row_form hown
    obtain ⟨h5, h6, h7⟩ := row_lies hown
    exact ⟨⟨A, c', l⟩, rfl, rfl, ⟨h5, h6, h7, HK.out.nok, HK.out.few⟩, hb⟩

set_option maxHeartbeats 1000000 in
set_option maxRecDepth 100000 in
/-- Two rows of clocks as one. -/
theorem concat_any (B d : Nat) (A : Option Addr) (c : Nat) (cs : List Ck) (A' : Option Addr) (c' : Nat) (cs' : List Ck) (w : World) (h0 : w.cell? ⟨B, 0, none⟩ = some (.slice A cs.length c)) (h1 : w.cell? ⟨B, 1, none⟩ = some (.slice A' cs'.length c'))
    (hl : LiesC (fun b => b < w.heap.size) w A (cellsC cs)) (hl' : LiesC (fun b => b < w.heap.size) w A' (cellsC cs')) (n0 : cs.length ≤ 1000) (n1 : cs'.length ≤ 1000) :
    Calls Tryz.prog 67 #[.slice (some ⟨B, 0, none⟩) 2 d] w fun e w' => ∃ v, e = .returned v ∧ OwnC w' w.heap.size v (cs ++ cs') ∧ Below w.heap.size w w' := by
  have HL := Lib.hid (And.intro hl hl')
  have HG := Lib.hid (growT_any (cs.length + cs'.length) (by omega) w)
  obtain ⟨n, hn⟩ : ∃ n, cs.length = n := ⟨_, rfl⟩
  obtain ⟨m, hm⟩ : ∃ m, cs'.length = m := ⟨_, rfl⟩
  rw [hn] at h0 n0 HG
  rw [hm] at h1 n1 HG
  have HN := Lib.hid (And.intro hn hm)
  clear hn hm hl hl'
  have w1 : wrap64 (0 + (n : Int)) = n := by unfold wrap64; omega
  have w2 : wrap64 ((n : Int) + (m : Int)) = ((n + m : Nat) : Int) := by unfold wrap64; omega
  have w3 : ¬ ((n : Int) < 0) := by omega
  have w4 : ¬ (((n + m : Nat) : Int) < 0) := by omega
  go_enter Tryz.func67, Tryz.ntmps67
  go_wp2_with fail
  refine wp_loop_rounds 3 ?_
  rw [rounds_succ]
  go_wp2_with fail
  rw [rounds_succ]
  go_wp2_with fail
  rw [rounds_succ]
  go_wp2_with fail
  rw [Int.natCast_add] at HG
  refine HG.out.mono ?_
  rintro e W ⟨v, rfl, hown, hb⟩
  have h0W := (hb.cell (p := ⟨B, 0, none⟩) (World.block_lt_of_cell? w _ h0)).trans h0
  have h1W := (hb.cell (p := ⟨B, 1, none⟩) (World.block_lt_of_cell? w _ h1)).trans h1
  have HO := Lib.hid hown
  have HB := Lib.hid (And.intro (World.block_lt_of_cell? w _ h0) (World.block_lt_of_cell? w _ h1))
  clear h0 h1 HG hown
  go_wp2_with fail
  refine wp_loop_rounds 3 ?_
  rw [rounds_succ]
  go_wp2_with (at_builtin; refine wpList_appC _ rfl (.tmp 31) (.tmp 32) 26 rfl w.heap.size Tryz.underlying26 v [] rfl HO.out (fun b => b < w.heap.size) A n c cs HN.out.1 rfl (HL.out.1.below hb) ?q1 hb.size ?_)
  case q1 => rw [HN.out.1]; simp only [List.length_nil]; omega
  intro v1 W1 hown1 hg1
  have hb1 : Below w.heap.size w W1 := hb.grown hg1 hb.size fun k hk => (HO.out.lt k hk).1
  have h1W1 := (hg1.cell h1W fun e => by have := (HO.out.lt _ e.symm).1; have := HB.out.2; simp only at *; omega)
  clear HO h0W h1W hg1 hb
  have HO := Lib.hid hown1
  clear hown1
  go_wp2_with fail
  rw [rounds_succ]
  go_wp2_with (at_builtin; refine wpList_appC _ rfl (.tmp 31) (.tmp 32) 26 rfl w.heap.size Tryz.underlying26 v1 ([] ++ cs) rfl HO.out (fun b => b < w.heap.size) A' m c' cs' HN.out.2 rfl (HL.out.2.below hb1) ?q1 hb1.size ?_)
  case q1 => rw [List.nil_append, HN.out.1, HN.out.2]; omega
  intro v2 W2 hown2 hg2
  have hb2 : Below w.heap.size w W2 := hb1.grown hg2 hb1.size fun k hk => (HO.out.lt k hk).1
  clear HO h1W1 hg2 hb1
  go_wp2_with fail
  rw [rounds_succ]
  go_wp2
  go_ret
  exact ⟨v2, rfl, hown2, hb2⟩
end Go.Proofs.YtdbohojncbeajaaGreat.J5

namespace Go.Proofs.YtdbohojncbeajaaGreat.J5
open Go.RowKit Go.Shelf
open C3 (Tk In Asc cmpC belAl allocB OwnT)
open V4 (Va Vl Ck LiesC cellsC cellsV cellsC_len InC val_mk er_mk)

theorem allE_mark {M N V W : Type} (g : M → N) (f : V → V → Option W) : ∀ l : List (M × V × V), allE f (l.map fun q => (g q.1, q.2)) = (allE f l).map fun r => r.map fun q => (g q.1, q.2)
  | [] => rfl
  | q :: l => by
    rw [List.map_cons, allE, allE, allE_mark g f l]
    cases f q.2.1 q.2.2 with
    | none => rfl
    | some v => cases allE f l <;> rfl
theorem togE_mark {M N V W : Type} (g : M → N) (f : V → V → Option W) (l : List (M × V × V)) : togE f (l.map fun q => (g q.1, q.2)) = (togE f l).map fun r => r.map fun q => (g q.1, q.2) := by
  unfold togE
  rw [List.length_map]
  split
  · rfl
  · exact allE_mark g f l

theorem zip_er2 (ss : List Ck) (vs : List Vl) : (ss.zip vs).map (fun p => (p.1.l, p.2.er)) = (ss.map Ck.l).zip (vs.map Vl.er) := by
  induction ss generalizing vs with
  | nil => rfl
  | cons s ss ih => cases vs with
    | nil => rfl
    | cons v vs => simp [ih]

/-- Versions, where they lie, joined. -/
theorem causeE_er (f : Va → Va → Option Va) (n m : Int) (sA : Option Addr) (sc : Nat) (ss : List Str) (cA : Option Addr) (cc : Nat) (cs : List Ck) (vA : Option Addr) (vc : Nat) (vs : List Vl)
    (n' m' : Int) (sA' : Option Addr) (sc' : Nat) (ss' : List Str) (cA' : Option Addr) (cc' : Nat) (cs' : List Ck) (vA' : Option Addr) (vc' : Nat) (vs' : List Vl) :
    causeE f (Vl.mk n m sA sc ss cA cc cs vA vc vs).er (Vl.mk n' m' sA' sc' ss' cA' cc' cs' vA' vc' vs').er = (togE f (((mix cmpTT vlZ (cs.zip vs) (cs'.zip vs')).filter fun p => !(cs ++ cs').any (seenC p.1)).map er3T)).map fun l => .mk 0 0 [] (l.map (·.1.l)) (l.map (·.2)) := by
  have h := mix_map (c := cmpTT) (c' := cmpT) (z := vlZ) (z' := Va.zero) Ck.l Vl.er (fun _ _ => rfl) vlZ_er (cs.zip vs) (cs'.zip vs')
  unfold causeE
  rw [er_mk, er_mk]
  simp only [Va.c, Va.v]
  rw [zip_er2, zip_er2] at h
  rw [← h, List.filter_map]
  have e1 : ((fun p : List Tk × Va × Va => !seenE p.1 (cs.map Ck.l ++ cs'.map Ck.l)) ∘ fun p : Ck × Vl × Vl => (p.1.l, p.2.1.er, p.2.2.er)) = fun p => !(cs ++ cs').any (seenC p.1) := by
    funext p
    simp only [Function.comp, seenE, ← List.map_append, List.any_map]
    rfl
  rw [e1]
  have e2 : ∀ l : List (Ck × Vl × Vl), l.map (fun p => (p.1.l, p.2.1.er, p.2.2.er)) = (l.map er3T).map fun q => (Ck.l q.1, q.2) := fun l => by
    rw [List.map_map]; rfl
  rw [e2, togE_mark]
  cases togE f (((mix cmpTT vlZ (cs.zip vs) (cs'.zip vs')).filter fun p => !(cs ++ cs').any (seenC p.1)).map er3T) with
  | none => rfl
  | some l => simp [Function.comp_def]

/-- A row of marks, of which the first i are the call's own, beside a row of values. -/
structure Mks (base i : Nat) (vm vv : Value) (ms : List Ck) (vs : List Vl) (X : World) : Prop where
  rm : OwnC X base vm ms
  rv : X.ownsRow base 29 5 vv vs.length (cellsV vs)
  ne : vm.ownBlock = none ∨ vm.ownBlock ≠ vv.ownBlock
  vk : ∀ v ∈ vs, v.Inp (fun b => base ≤ b ∧ b < X.heap.size ∧ some b ≠ vm.ownBlock) X
  mo : ∀ (j : Nat) (k : Ck), j < i → ms[j]? = some k → k.Inp (fun b => base ≤ b ∧ b < X.heap.size ∧ some b ≠ vm.ownBlock) X
section
variable {base i : Nat} {vm vv : Value} {ms : List Ck} {vs : List Vl} {X X' : World}
theorem Mks.start {out : List (Ck × Vl)} {Y : Nat → Prop} (h : Hd encT 44 base Y vm vv out X) : Mks base 0 vm vv (out.map (·.1)) (out.map (·.2)) X := by
  refine ⟨?_, ?_, h.ne, fun v hv => ?_, fun _ _ h => (by omega)⟩
  · have := h.rm
    unfold OwnC cellsC
    rw [List.length_map, List.map_map]
    exact this
  · rw [List.length_map]; exact h.rv
  · obtain ⟨p, hp, rfl⟩ := List.mem_map.1 hv
    exact (h.vk p hp).mono fun b hP => ⟨hP.1, hP.2.1, hP.2.2.1⟩
theorem Mks.below (h : Mks base i vm vv ms vs X) (hb : Below X.heap.size X X') : Mks base i vm vv ms vs X' :=
  ⟨row_keep h.rm fun b e => hb.block b (h.rm.lt b e).2, row_keep h.rv fun b e => hb.block b (h.rv.lt b e).2, h.ne,
    fun v hv => ((h.vk v hv).keep fun b hP => hb.block b hP.2.1).mono fun _ hP => ⟨hP.1, Nat.lt_of_lt_of_le hP.2.1 hb.size, hP.2.2⟩,
    fun j k hj hk => ((h.mo j k hj hk).keep fun b hP => hb.block b hP.2.1).mono fun _ hP => ⟨hP.1, Nat.lt_of_lt_of_le hP.2.1 hb.size, hP.2.2⟩⟩
theorem row_set {e : TypeId} {g n c : Nat} {xs : List Value} (h : X.ownsRow base e 1 (.slice (some ⟨g, 0, none⟩) n c) n xs) (i : Nat) (u : Value) : (X.setCell ⟨g, i, none⟩ u).ownsRow base e 1 (.slice (some ⟨g, 0, none⟩) n c) n (xs.set i u) := by
  refine ⟨by rw [List.length_set]; exact h.1, .inr ?_⟩
  rcases h.2 with ⟨e1, _⟩ | ⟨g', cap, cur, e1, hb, hg, hnc, hcm, hcs, ht⟩
  · cases e1
  · cases e1
    refine ⟨g, c, cur.setIfInBounds i u, rfl, hb, heap_setCell_same X g i cur e u hg, hnc, hcm, by rw [Array.size_setIfInBounds]; exact hcs, ?_⟩
    rw [Array.toList_setIfInBounds, List.take_set, ht]
theorem Mks.put {g n c : Nat} (h : Mks base i (.slice (some ⟨g, 0, none⟩) n c) vv ms vs X) (hn : ms.length = n) {k : Ck} (hk : k.Inp (fun b => base ≤ b ∧ b < X.heap.size ∧ b ≠ g) X) :
    Mks base (i + 1) (.slice (some ⟨g, 0, none⟩) n c) vv (ms.set i k) vs (X.setCell ⟨g, i, none⟩ k.v) := by
  subst hn
  have hs : (X.setCell ⟨g, i, none⟩ k.v).heap.size = X.heap.size := by simp
  have hne : ∀ b, some b ≠ (Value.slice (some ⟨g, 0, none⟩) ms.length c).ownBlock → b ≠ g := fun b hb e => hb (by rw [e]; rfl)
  have hl : ∀ b, b ≠ g → (X.setCell ⟨g, i, none⟩ k.v).heap[b]? = X.heap[b]? := fun b hb => Below.heap_setCell _ _ _ _ hb
  refine ⟨?_, row_keep h.rv fun b e => hl b fun e2 => ?_, h.ne, fun v hv => ?_, fun j k' hj hk' => ?_⟩
  · have := row_set h.rm i k.v
    unfold OwnC cellsC at *
    rw [List.length_set, List.map_set]
    exact this
  · rcases h.ne with e3 | e3
    · cases e3
    · exact e3 (by rw [e, e2]; rfl)
  · rw [hs]; exact (h.vk v hv).keep fun b hP => hl b (hne b hP.2.2)
  · rw [hs]
    by_cases e : j = i
    · subst e
      rw [List.getElem?_set] at hk'
      simp only [↓reduceIte] at hk'
      split at hk'
      · cases hk'
        exact (hk.keep fun b hP => hl b hP.2.2).mono fun b hP => ⟨hP.1, hP.2.1, fun e => hP.2.2 (Option.some.inj e)⟩
      · cases hk'
    · rw [List.getElem?_set_ne (Ne.symm e)] at hk'
      exact (h.mo j k' (by omega) hk').keep fun b hP => hl b (hne b hP.2.2)
theorem Mks.val {A A2 : Option Addr} {n m c c2 : Nat} (h : Mks base i (.slice A n c) (.slice A2 m c2) ms vs X) (hn : ms.length = n) (hm : vs.length = m) (hi : ms.length ≤ i) (l1 : n ≤ 40) (l2 : m ≤ 40) :
    (Vl.mk 0 0 none 0 [] A c ms A2 c2 vs).Inp (fun b => base ≤ b ∧ b < X.heap.size) X := by
  subst hn
  subst hm
  obtain ⟨a1, a2, a3⟩ := row_lies h.rm
  obtain ⟨b1, b2, b3⟩ := row_lies h.rv
  refine .mk _ _ _ _ _ _ _ _ _ _ _ (by omega) (by omega) (.inl rfl) (by simp) (by simp) a1 (by omega) (fun k hk => ?_) b1 (by omega) (fun x hx => (h.vk x hx).mono fun b hP => ⟨hP.1, hP.2.1⟩)
  obtain ⟨j, hj, e⟩ := List.mem_iff_getElem.1 hk
  exact (h.mo j k (by omega) (by rw [List.getElem?_eq_getElem hj, e])).mono fun b hP => ⟨hP.1, hP.2.1⟩
end
end Go.Proofs.YtdbohojncbeajaaGreat.J5
