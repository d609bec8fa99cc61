/- What join.All does; pairs, if joinPairs does what it should. No condition but that what it takes lies in memory. What the law's own test, known, answers: yes. No condition. What the law's own helper, of, answers; two versions of one tick each: plain mathematics, and in memory. No condition. Some values joined: plain mathematics. No condition. What errors.Is does with errors that are numbers. No condition. What the laws' own helpers, known and of, do. No condition. Texts made of one or two bytes. No condition but that the bytes are bytes. -/
import Derived.Test.YtleejffjnknohaaGreatMo23
import Derived.Test.YtleejffjnknohaaGreatMo12
import Derived.Stop.Asserts
import Derived.LaidEql
import Derived.Lib.Strings
namespace Go.Proofs.YtleejffjnknohaaGreat.J5
open Go.RowKit Go.Shelf
open C3 (Tk In belAl allocB)
open S2 (Sc Tr isT)
open V4 (Va Vl Ck isV botT LiesC cellsV val_mk er_mk)

/-- What it answers, as one. -/
theorem retK_case {W : World} {o : Except Int Va} {e : Ending} {W' : World} (h : RetK W o e W') : ∃ (x : Vl) (ev : Value), e = .returned (.tuple #[x.val, ev]) ∧ x.Inp (fun b => W.heap.size ≤ b ∧ b < W'.heap.size) W' ∧ Below W.heap.size W W' ∧ ((o = .ok x.er ∧ ev = .nilIface) ∨ (∃ n, o = .error n ∧ x = vlZ ∧ ev = errV n)) := by
  rcases h with ⟨x, ho, rfl, hi, hb⟩ | ⟨n, ho, rfl, hb⟩
  · exact ⟨x, _, rfl, hi, hb, .inl ⟨ho, rfl⟩⟩
  · exact ⟨vlZ, _, rfl, V4.inp_zero _ _, hb, .inr ⟨n, ho, rfl, rfl⟩⟩

/-- Between the rounds. -/
structure AllM (w : World) (sv : Array Value) (B6 : Nat) (t : Tr) (l : List Vl) (k : Nat) (g : Vl) (W : World) : Prop where
  q0 : Blk W w.heap.size 24 sv
  q1 : Blk W (w.heap.size + 1) 32 #[.int .u64 0, .int .u64 0, .slice none 0 0, .slice none 0 0, .slice none 0 0]
  q2 : Blk W B6 32 #[.int .u64 g.n, .int .u64 g.m, g.s1, g.c1, g.v1]
  hg : g.Inp (fun b => w.heap.size + 2 ≤ b ∧ b < W.heap.size ∧ b ≠ B6) W
  fold : ((l.map Vl.er).take k).foldlM (stepE t) (botT t) = .ok g.er
  bel : Below w.heap.size w W
  b6 : w.heap.size + 2 ≤ B6

theorem getL {l : List Vl} {k : Nat} {v : Vl} (hv : l[k]? = some v) : (l.map Vl.er)[k]? = some v.er := by rw [List.getElem?_map, hv]; rfl

set_option maxRecDepth 100000 in
set_option maxHeartbeats 2000000 in
theorem All_any (Q : Prop) (HP : Q → PairsDo) (s : Sc) (A : Option Addr) (c : Nat) (l : List Vl) (w : World) (hs : s.In w.heap.size w) (hl : LiesC (fun b => b < w.heap.size) w A (cellsV l)) (hv : ∀ v ∈ l, v.In w) (hn : l.length ≤ 1000000) (hq : isT 16 s.er = true → Q ∨ NoP s.er) :
    Calls Tryz.prog 12 #[s.val, .slice A l.length c] w (RetK w (allF s.er (l.map Vl.er))) := by
  obtain ⟨p, hp⟩ : ∃ p, isT 16 s.er = p := ⟨_, rfl⟩
  have HIS := Lib.hid (fun W (hb : Below w.heap.size w W) => S2.Is_any s W (hs.later hb))
  rw [hp] at HIS
  have HBO := Lib.hid (fun W (hb : Below w.heap.size w W) => V4.Bottom_any s W (hs.later hb))
  have HJ := Lib.hid (fun x y W (hb : Below w.heap.size w W) (hx : x.In W) (hy : y.In W) => Join_any Q HP s x y W (hs.later hb) hx hy hq)
  have HF : Hid (p = true → allF s.er (l.map Vl.er) = (l.map Vl.er).foldlM (stepE s.er) (botT s.er)) := fun e => by show allF _ _ = _; unfold allF; rw [if_pos (hp.trans e)]
  have HJF : Hid (p = true → ∀ x y, joinF s.er x y = stepE s.er x y) := fun e x y => by show joinF _ _ _ = _; unfold joinF; rw [if_pos (hp.trans e)]
  have HN : Hid (p = false → allF s.er (l.map Vl.er) = .error 14) := fun e => by show allF _ _ = _; unfold allF; rw [if_neg (by rw [hp, e]; decide)]
  obtain ⟨R, hR⟩ : ∃ R, allF s.er (l.map Vl.er) = R := ⟨_, rfl⟩
  rw [hR] at HF HN
  rw [hR]
  clear hR hq hs hp
  have HL := Lib.hid hl
  have HV := Lib.hid hv
  have hln : l.length ≤ 9223372036854775807 := by omega
  clear hl hv hn
  obtain ⟨t, ht⟩ : ∃ t, s.er = t := ⟨_, rfl⟩
  rw [ht] at HBO HJ HF HJF
  clear ht
  obtain ⟨k0, A0, sc0, sl⟩ := s
  simp only [S2.val_mk] at HIS HBO HJ ⊢
  obtain ⟨V, hV⟩ : ∃ V, (w.alloc (.cells #[.int .i64 k0, .slice A0 sl.length sc0] 24)).alloc (.cells #[.int .u64 0, .int .u64 0, .slice none 0 0, .slice none 0 0, .slice none 0 0] 32) = V := ⟨_, rfl⟩
  obtain ⟨q0, q1, hbV, hs0⟩ := blk2 hV
  have hsV : w.heap.size + 2 ≤ V.heap.size := by omega
  clear hs0
  have e0 : V.cell? ⟨w.heap.size, 0, none⟩ = some (.int .i64 k0) := blk_cell q0 0 _ rfl
  have e1 : V.cell? ⟨w.heap.size, 1, none⟩ = some (.slice A0 sl.length sc0) := blk_cell q0 1 _ rfl
  go_enter Tryz.func12, Tryz.ntmps12
  go_wp2_with fail
  refine (HIS.out V hbV).mono ?_
  rintro e V1 ⟨rfl, hb1⟩
  have hbV1 := hbV.trans (hb1.mono hbV.size)
  have hs1 := hb1.size
  replace q0 := q0.below hb1
  replace q1 := q1.below hb1
  clear e0 e1 hV HIS hb1
  cases p with
  | false =>
    have d0 : V1.cell? ⟨w.heap.size + 1, 0, none⟩ = some (.int .u64 0) := blk_cell q1 0 _ rfl
    have d1 : V1.cell? ⟨w.heap.size + 1, 1, none⟩ = some (.int .u64 0) := blk_cell q1 1 _ rfl
    have d2 : V1.cell? ⟨w.heap.size + 1, 2, none⟩ = some (.slice none 0 0) := blk_cell q1 2 _ rfl
    have d3 : V1.cell? ⟨w.heap.size + 1, 3, none⟩ = some (.slice none 0 0) := blk_cell q1 3 _ rfl
    have d4 : V1.cell? ⟨w.heap.size + 1, 4, none⟩ = some (.slice none 0 0) := blk_cell q1 4 _ rfl
    have f0 := blk_frozen q1 0
    have f1 := blk_frozen q1 1
    have f2 := blk_frozen q1 2
    have f3 := blk_frozen q1 3
    have f4 := blk_frozen q1 4
    go_wp2_with fail
    refine bodyPost_ret (results_cv rfl _ _ (w.heap.size + 1) (.int .u64 0) (.int .u64 0) (.slice none 0 0) (.slice none 0 0) (.slice none 0 0) rfl (blk_cell (set5_blk q1) 0 _ rfl) (blk_cell (set5_blk q1) 1 _ rfl) (blk_cell (set5_blk q1) 2 _ rfl) (blk_cell (set5_blk q1) 3 _ rfl) (blk_cell (set5_blk q1) 4 _ rfl)) rfl ?_
    rw [HN.out (by simp)]
    exact .inr ⟨14, rfl, rfl, set5_bel hbV1 (by omega)⟩
  | true =>
    replace HF := Lib.hid (HF.out rfl)
    replace HJF := Lib.hid (HJF.out rfl)
    clear HN
    have e0 : V1.cell? ⟨w.heap.size, 0, none⟩ = some (.int .i64 k0) := blk_cell q0 0 _ rfl
    have e1 : V1.cell? ⟨w.heap.size, 1, none⟩ = some (.slice A0 sl.length sc0) := blk_cell q0 1 _ rfl
    go_wp2_with fail
    refine (HBO.out V1 hbV1).mono ?_
    rintro e U ⟨⟨gn, gm, gsA, gsc, gss, gcA, gcc, gcs, gvA, gvc, gvs⟩, rfl, hge, hgi, hbU⟩
    simp only [val_mk]
    have hsU := hbU.size
    obtain ⟨X, hX⟩ : ∃ X, U.alloc (.cells #[.int .u64 gn, .int .u64 gm, .slice gsA gss.length gsc, .slice gcA gcs.length gcc, .slice gvA gvs.length gvc] 32) = X := ⟨_, rfl⟩
    have hbX : Below U.heap.size U X := by rw [← hX]; exact allocB _ _
    have q2 : Blk X U.heap.size 32 #[.int .u64 gn, .int .u64 gm, .slice gsA gss.length gsc, .slice gcA gcs.length gcc, .slice gvA gvs.length gvc] := by rw [← hX]; exact Blk.new _ _ _
    have HM : Hid (AllM w #[.int .i64 k0, .slice A0 sl.length sc0] U.heap.size t l 0 (.mk gn gm gsA gsc gss gcA gcc gcs gvA gvc gvs) X) := by
      refine ⟨(q0.below hbU).below hbX, (q1.below hbU).below hbX, q2, (hgi.keep fun b hP => hbX.block b hP.2).mono fun b hP => ⟨by have := hP.1; omega, ?_, by have := hP.2; omega⟩, ?_, hbV1.trans ((hbU.trans (hbX.mono hbU.size)).mono hbV1.size), by omega⟩
      · exact Nat.lt_of_lt_of_le hP.2 hbX.size
      · rw [hge]; rfl
    obtain ⟨B6, hB6⟩ : ∃ B6, U.heap.size = B6 := ⟨_, rfl⟩
    rw [hB6] at HM
    clear q0 q1 q2 e0 e1 hge hgi hbX HBO
    go_wp2_with fail
    clear hB6 hX hbU hsU hbV1 hs1
    go_loopw [20] (fun iv wr => ∃ (k : Nat) (g : Vl), k ≤ l.length ∧ iv = .int .i64 k ∧ Hid (AllM w #[.int .i64 k0, .slice A0 sl.length sc0] B6 t l k g wr)) (fun iv _ => l.length - (intOf iv).toNat)
    case atStart => exact ⟨0, _, Nat.zero_le _, rfl, HM⟩
    case round =>
      clear HM
      obtain ⟨k, ⟨gn, gm, gsA, gsc, gss, gcA, gcc, gcs, gvA, gvc, gvs⟩, hk, rfl, HM⟩ := hrel
      have q0 := HM.out.q0
      have q1 := HM.out.q1
      have q2 := HM.out.q2
      have h6 := HM.out.b6
      have hbr := HM.out.bel
      simp only [V4.Vl.n, V4.Vl.m, V4.Vl.s1, V4.Vl.c1, V4.Vl.v1] at q2
      by_cases hlt : k < l.length
      · obtain ⟨x, hx⟩ : ∃ x, l[k]? = some x := ⟨_, List.getElem?_eq_getElem hlt⟩
        obtain ⟨b, off, rfl, hbb, c0, c1, c2, c3, c4⟩ := V4.value_at HL.out hx
        have HX := Lib.hid hx
        have HXI := Lib.hid (HV.out x (List.mem_of_getElem? hx))
        obtain ⟨x0, hx0⟩ : ∃ x0, x = x0 := ⟨_, rfl⟩
        rw [hx0] at HX
        have HX0 := Lib.hid hx0
        clear hx hx0
        obtain ⟨kn, km, ksA, ksc, kss, kcA, kcc, kcs, kvA, kvc, kvs⟩ := x
        simp only [V4.Vl.n, V4.Vl.m, V4.Vl.s1, V4.Vl.c1, V4.Vl.v1] at c0 c1 c2 c3 c4
        replace c0 := (hbr.cell (p := ⟨b, off + k * 5, none⟩) hbb).trans c0
        replace c1 := (hbr.cell (p := ⟨b, off + k * 5 + 1, none⟩) hbb).trans c1
        replace c2 := (hbr.cell (p := ⟨b, off + k * 5 + 2, none⟩) hbb).trans c2
        replace c3 := (hbr.cell (p := ⟨b, off + k * 5 + 3, none⟩) hbb).trans c3
        replace c4 := (hbr.cell (p := ⟨b, off + k * 5 + 4, none⟩) hbb).trans c4
        obtain ⟨Y, hY⟩ : ∃ Y, wr.alloc (.cells #[.int .u64 kn, .int .u64 km, .slice ksA kss.length ksc, .slice kcA kcs.length kcc, .slice kvA kvs.length kvc] 32) = Y := ⟨_, rfl⟩
        have hbY : Below wr.heap.size wr Y := by rw [← hY]; exact allocB _ _
        have r8 : Blk Y wr.heap.size 32 #[.int .u64 kn, .int .u64 km, .slice ksA kss.length ksc, .slice kcA kcs.length kcc, .slice kvA kvs.length kvc] := by rw [← hY]; exact Blk.new _ _ _
        have r0 := q0.below hbY
        have r1 := q1.below hbY
        have r2 := q2.below hbY
        have hbwY := hbr.trans (hbY.mono hbr.size)
        have hsY := hbY.size
        have hl1 := r1.lt
        have hl2 := q2.lt
        have hl3 := q1.lt
        have hl8 := r8.lt
        have e0 : Y.cell? ⟨w.heap.size, 0, none⟩ = some (.int .i64 k0) := blk_cell r0 0 _ rfl
        have e1 : Y.cell? ⟨w.heap.size, 1, none⟩ = some (.slice A0 sl.length sc0) := blk_cell r0 1 _ rfl
        have a0 : Y.cell? ⟨B6, 0, none⟩ = some (.int .u64 gn) := blk_cell r2 0 _ rfl
        have a1 : Y.cell? ⟨B6, 1, none⟩ = some (.int .u64 gm) := blk_cell r2 1 _ rfl
        have a2 : Y.cell? ⟨B6, 2, none⟩ = some (.slice gsA gss.length gsc) := blk_cell r2 2 _ rfl
        have a3 : Y.cell? ⟨B6, 3, none⟩ = some (.slice gcA gcs.length gcc) := blk_cell r2 3 _ rfl
        have a4 : Y.cell? ⟨B6, 4, none⟩ = some (.slice gvA gvs.length gvc) := blk_cell r2 4 _ rfl
        have b0 : Y.cell? ⟨wr.heap.size, 0, none⟩ = some (.int .u64 kn) := blk_cell r8 0 _ rfl
        have b1 : Y.cell? ⟨wr.heap.size, 1, none⟩ = some (.int .u64 km) := blk_cell r8 1 _ rfl
        have b2 : Y.cell? ⟨wr.heap.size, 2, none⟩ = some (.slice ksA kss.length ksc) := blk_cell r8 2 _ rfl
        have b3 : Y.cell? ⟨wr.heap.size, 3, none⟩ = some (.slice kcA kcs.length kcc) := blk_cell r8 3 _ rfl
        have b4 : Y.cell? ⟨wr.heap.size, 4, none⟩ = some (.slice kvA kvs.length kvc) := blk_cell r8 4 _ rfl
        have HJY : Hid (Calls Tryz.prog 15 #[.agg #[.int .i64 k0, .slice A0 sl.length sc0], .agg #[.int .u64 gn, .int .u64 gm, .slice gsA gss.length gsc, .slice gcA gcs.length gcc, .slice gvA gvs.length gvc], .agg #[.int .u64 kn, .int .u64 km, .slice ksA kss.length ksc, .slice kcA kcs.length kcc, .slice kvA kvs.length kvc]] Y (RetK Y (joinF t (Vl.mk gn gm gsA gsc gss gcA gcc gcs gvA gvc gvs).er (Vl.mk kn km ksA ksc kss kcA kcc kcs kvA kvc kvs).er))) :=
          HJ.out _ _ Y hbwY ((HM.out.hg.keep fun b hP => hbY.block b hP.2.1).mono fun b hP => Nat.lt_of_lt_of_le hP.2.1 hbY.size) (HXI.out.later hbwY)
        rw [HJF.out] at HJY
        obtain ⟨st, hst⟩ : ∃ st, stepE t (Vl.mk gn gm gsA gsc gss gcA gcc gcs gvA gvc gvs).er (Vl.mk kn km ksA ksc kss kcA kcc kcs kvA kvc kvs).er = st := ⟨_, rfl⟩
        rw [hst] at HJY
        have HST : Hid (((l.map Vl.er).take (k + 1)).foldlM (stepE t) (botT t) = st) := by
          show _ = _
          rw [foldlM_take (getL HX.out), HM.out.fold, ← hst, ← HX0.out]; rfl
        clear hst q0 q2
        go_wp2_with fail
        refine HJY.out.mono ?_
        rintro e T hr
        obtain ⟨⟨zn, zm, zsA, zsc, zss, zcA, zcc, zcs, zvA, zvc, zvs⟩, ev, rfl, hzi, hbT, hcase⟩ := retK_case hr
        simp only [val_mk]
        clear hr HJY e0 e1 a0 a1 a2 a3 a4 b0 b1 b2 b3 b4 c0 c1 c2 c3 c4 hbb hY
        have hsT := hbT.size
        obtain ⟨Z, hZ⟩ : ∃ Z, T.alloc (.cells #[.int .u64 zn, .int .u64 zm, .slice zsA zss.length zsc, .slice zcA zcs.length zcc, .slice zvA zvs.length zvc] 32) = Z := ⟨_, rfl⟩
        have hbZ : Below T.heap.size T Z := by rw [← hZ]; exact allocB _ _
        have r9 : Blk Z T.heap.size 32 #[.int .u64 zn, .int .u64 zm, .slice zsA zss.length zsc, .slice zcA zcs.length zcc, .slice zvA zvs.length zvc] := by rw [← hZ]; exact Blk.new _ _ _
        have z0 := (r0.below hbT).below hbZ
        have z1 := (r1.below hbT).below hbZ
        have z2 := (r2.below hbT).below hbZ
        have hbwZ : Below w.heap.size w Z := (hbwY.trans (hbT.mono hbwY.size)).trans (hbZ.mono (Nat.le_trans hbwY.size hbT.size))
        have hsZ := hbZ.size
        have HZI : Hid ((Vl.mk zn zm zsA zsc zss zcA zcc zcs zvA zvc zvs).Inp (fun b => Y.heap.size ≤ b ∧ b < T.heap.size) Z) := hzi.keep fun b hP => hbZ.block b hP.2
        clear hzi r0 r1 r2 r8
        rcases hcase with ⟨ho, rfl⟩ | ⟨en, ho, hz, rfl⟩
        · have HO := Lib.hid ho
          clear ho
          have a0 : Z.cell? ⟨T.heap.size, 0, none⟩ = some (.int .u64 zn) := blk_cell r9 0 _ rfl
          have a1 : Z.cell? ⟨T.heap.size, 1, none⟩ = some (.int .u64 zm) := blk_cell r9 1 _ rfl
          have a2 : Z.cell? ⟨T.heap.size, 2, none⟩ = some (.slice zsA zss.length zsc) := blk_cell r9 2 _ rfl
          have a3 : Z.cell? ⟨T.heap.size, 3, none⟩ = some (.slice zcA zcs.length zcc) := blk_cell r9 3 _ rfl
          have a4 : Z.cell? ⟨T.heap.size, 4, none⟩ = some (.slice zvA zvs.length zvc) := blk_cell r9 4 _ rfl
          have b0 : Z.cell? ⟨B6, 0, none⟩ = some (.int .u64 gn) := blk_cell z2 0 _ rfl
          have b1 : Z.cell? ⟨B6, 1, none⟩ = some (.int .u64 gm) := blk_cell z2 1 _ rfl
          have b2 : Z.cell? ⟨B6, 2, none⟩ = some (.slice gsA gss.length gsc) := blk_cell z2 2 _ rfl
          have b3 : Z.cell? ⟨B6, 3, none⟩ = some (.slice gcA gcs.length gcc) := blk_cell z2 3 _ rfl
          have b4 : Z.cell? ⟨B6, 4, none⟩ = some (.slice gvA gvs.length gvc) := blk_cell z2 4 _ rfl
          have f0 := blk_frozen z2 0
          have f1 := blk_frozen z2 1
          have f2 := blk_frozen z2 2
          have f3 := blk_frozen z2 3
          have f4 := blk_frozen z2 4
          have HM2 : Hid (AllM w #[.int .i64 k0, .slice A0 sl.length sc0] B6 t l (k + 1) (.mk zn zm zsA zsc zss zcA zcc zcs zvA zvc zvs) (set5 Z B6 (.int .u64 zn) (.int .u64 zm) (.slice zsA zss.length zsc) (.slice zcA zcs.length zcc) (.slice zvA zvs.length zvc))) := by
            refine ⟨(set5_low (by omega)).trans z0, (set5_low (by omega)).trans z1, set5_blk z2, (HZI.out.keep fun b hP => set5_low (by have := hP.1; omega)).mono fun b hP => ⟨by have := hP.1; omega, ?_, by have := hP.1; omega⟩, HST.out.trans HO.out, set5_bel hbwZ (by omega), h6⟩
            exact Nat.lt_of_lt_of_le (Nat.lt_of_lt_of_le hP.2 hbZ.size) (Nat.le_of_eq set5_size.symm)
          clear z0 z1 z2 r9 HM
          go_wp2_with fail
          go_roundw
          case rel => exact ⟨k + 1, _, by omega, by go_num, HM2⟩
          case measure => simp [intOf]; omega
        · have HO := Lib.hid ho
          clear ho
          have hev : errV en = .iface 39 (.int .i64 en) := rfl
          rw [hev]
          have d0 : Z.cell? ⟨w.heap.size + 1, 0, none⟩ = some (.int .u64 0) := blk_cell z1 0 _ rfl
          have d1 : Z.cell? ⟨w.heap.size + 1, 1, none⟩ = some (.int .u64 0) := blk_cell z1 1 _ rfl
          have d2 : Z.cell? ⟨w.heap.size + 1, 2, none⟩ = some (.slice none 0 0) := blk_cell z1 2 _ rfl
          have d3 : Z.cell? ⟨w.heap.size + 1, 3, none⟩ = some (.slice none 0 0) := blk_cell z1 3 _ rfl
          have d4 : Z.cell? ⟨w.heap.size + 1, 4, none⟩ = some (.slice none 0 0) := blk_cell z1 4 _ rfl
          have f0 := blk_frozen z1 0
          have f1 := blk_frozen z1 1
          have f2 := blk_frozen z1 2
          have f3 := blk_frozen z1 3
          have f4 := blk_frozen z1 4
          clear HM
          go_wp2_with fail
          refine bodyPost_ret (results_cv rfl _ _ (w.heap.size + 1) (.int .u64 0) (.int .u64 0) (.slice none 0 0) (.slice none 0 0) (.slice none 0 0) rfl (blk_cell (set5_blk z1) 0 _ rfl) (blk_cell (set5_blk z1) 1 _ rfl) (blk_cell (set5_blk z1) 2 _ rfl) (blk_cell (set5_blk z1) 3 _ rfl) (blk_cell (set5_blk z1) 4 _ rfl)) rfl ?_
          refine .inr ⟨en, ?_, rfl, set5_bel hbwZ (by omega)⟩
          rw [HF.out]
          exact foldlM_error (HST.out.trans HO.out)
      · have hkk : k = l.length := by omega
        have a0 : wr.cell? ⟨B6, 0, none⟩ = some (.int .u64 gn) := blk_cell q2 0 _ rfl
        have a1 : wr.cell? ⟨B6, 1, none⟩ = some (.int .u64 gm) := blk_cell q2 1 _ rfl
        have a2 : wr.cell? ⟨B6, 2, none⟩ = some (.slice gsA gss.length gsc) := blk_cell q2 2 _ rfl
        have a3 : wr.cell? ⟨B6, 3, none⟩ = some (.slice gcA gcs.length gcc) := blk_cell q2 3 _ rfl
        have a4 : wr.cell? ⟨B6, 4, none⟩ = some (.slice gvA gvs.length gvc) := blk_cell q2 4 _ rfl
        have d0 : wr.cell? ⟨w.heap.size + 1, 0, none⟩ = some (.int .u64 0) := blk_cell q1 0 _ rfl
        have d1 : wr.cell? ⟨w.heap.size + 1, 1, none⟩ = some (.int .u64 0) := blk_cell q1 1 _ rfl
        have d2 : wr.cell? ⟨w.heap.size + 1, 2, none⟩ = some (.slice none 0 0) := blk_cell q1 2 _ rfl
        have d3 : wr.cell? ⟨w.heap.size + 1, 3, none⟩ = some (.slice none 0 0) := blk_cell q1 3 _ rfl
        have d4 : wr.cell? ⟨w.heap.size + 1, 4, none⟩ = some (.slice none 0 0) := blk_cell q1 4 _ rfl
        have f0 := blk_frozen q1 0
        have f1 := blk_frozen q1 1
        have f2 := blk_frozen q1 2
        have f3 := blk_frozen q1 3
        have f4 := blk_frozen q1 4
        have hl2 := q2.lt
        have HQ := Lib.hid (And.intro q0 q2)
        clear q0 q2
        go_wp2_with fail
        refine bodyPost_ret (results_cv rfl _ _ (w.heap.size + 1) (.int .u64 gn) (.int .u64 gm) (.slice gsA gss.length gsc) (.slice gcA gcs.length gcc) (.slice gvA gvs.length gvc) rfl (blk_cell (set5_blk q1) 0 _ rfl) (blk_cell (set5_blk q1) 1 _ rfl) (blk_cell (set5_blk q1) 2 _ rfl) (blk_cell (set5_blk q1) 3 _ rfl) (blk_cell (set5_blk q1) 4 _ rfl)) rfl ?_
        refine .inl ⟨.mk gn gm gsA gsc gss gcA gcc gcs gvA gvc gvs, ?_, rfl, (HM.out.hg.keep fun b hP => set5_low (by have := hP.1; omega)).mono fun b hP => ⟨by have := hP.1; omega, ?_⟩, set5_bel hbr (by omega)⟩
        · rw [HF.out]
          have := HM.out.fold
          rwa [List.take_of_length_le (by simp; omega)] at this
        · exact Nat.lt_of_lt_of_le hP.2.1 (Nat.le_of_eq set5_size.symm)
end Go.Proofs.YtleejffjnknohaaGreat.J5

namespace Go.Proofs.YtleejffjnknohaaGreat.V4
open Go.RowKit Go.Shelf
open C3 (Tk isC belAl)
open S2 (Sc Tr isT allocB)

/-- A variable: its cells. -/
def Bxd (W : World) (b : Nat) (cs : Array Value) : Prop := b < W.heap.size ∧ ∀ i v, cs[i]? = some v → W.cell? ⟨b, i, none⟩ = some v
theorem Bxd.later {W W' : World} {b : Nat} {cs : Array Value} (h : Bxd W b cs) (hb : Below W.heap.size W W') : Bxd W' b cs := ⟨Nat.lt_of_lt_of_le h.1 hb.size, fun i v hv => (hb.cell (p := ⟨b, i, none⟩) h.1).trans (h.2 i v hv)⟩
theorem Bxd.new {W : World} {cs : Array Value} {t : TypeId} : Bxd (W.alloc (.cells cs t)) W.heap.size cs := ⟨by simp, fun i v h => alloc_cells i v h⟩
theorem Bxd.al {W : World} {b : Nat} {cs : Array Value} (h : Bxd W b cs) (o : Obj) : Bxd (W.alloc o) b cs := h.later (allocB W o)

/-- A schema without any in it, a value without any: wherever. -/
def scLeaf (k : Int) : Sc := .mk k none 0 []
def vlNum (n : Int) : Vl := .mk n 0 none 0 [] none 0 [] none 0 []
theorem scLeaf_in (k : Int) (P : Nat → Prop) (W : World) : (scLeaf k).Inp P W := .mk _ _ _ _ (.inl rfl) (by simp) (by simp) (by simp) (by simp)
theorem vlNum_in (n : Int) (hn : 0 ≤ n ∧ n ≤ 18446744073709551615) (P : Nat → Prop) (W : World) : (vlNum n).Inp P W :=
  .mk _ _ _ _ _ _ _ _ _ _ _ hn (by omega) .nil (by simp [maxLen]) (by simp) .nil (by simp [maxLen]) (by simp) .nil (by simp [maxLen]) (by simp)
/-- A value of texts alone, that lie in block b. -/
def vlTexts (n b : Nat) (ss : List Str) : Vl := .mk n 0 (some ⟨b, 0, none⟩) ss.length ss none 0 [] none 0 []
theorem vlTexts_in {W : World} {b : Nat} {ss : List Str} {cs : Array Value} (n : Nat) (hn : n ≤ 1000) (h : Bxd W b cs) (hcs : cs = (cellsS ss).toArray) (hl : ss.length ≤ 1000) (ht : ∀ s ∈ ss, s.length ≤ 1000) : (vlTexts n b ss).In W := by
  refine .mk _ _ _ _ _ _ _ _ _ _ _ (by omega) (by omega) (.inr ⟨b, 0, rfl, h.1, fun i u hu => ?_⟩) (by simp [maxLen]; omega) (fun s hs => by have := ht s hs; unfold maxLen; omega) .nil (by simp [maxLen]) (by simp) .nil (by simp [maxLen]) (by simp)
  rw [Nat.zero_add]
  exact h.2 i u (by rw [hcs]; simpa using hu)

/-- A schema of one or two that lie in block b. -/
def scRow (k : Int) (b : Nat) (l : List Sc) : Sc := .mk k (some ⟨b, 0, none⟩) l.length l
theorem scRow_in {W : World} {b : Nat} {l : List Sc} {cs : Array Value} (k : Int) (h : Bxd W b cs) (hcs : cs = (l.flatMap fun s => [.int .i64 s.k, s.v1]).toArray) (hl : l.length ≤ 1000) (hin : ∀ s ∈ l, s.In W.heap.size W) : (scRow k b l).In W.heap.size W := by
  refine .mk _ _ _ _ (.inr ⟨b, 0, rfl, h.1, fun i s hs => ?_⟩) (Nat.le_refl _) (by omega) (by omega) hin
  have hc : ∀ (l : List Sc) (i : Nat) (s : Sc), l[i]? = some s → (l.flatMap fun s => [Value.int .i64 s.k, s.v1])[i * 2]? = some (.int .i64 s.k) ∧ (l.flatMap fun s => [Value.int .i64 s.k, s.v1])[i * 2 + 1]? = some s.v1 := fun l => by
    induction l with
    | nil => intro i s h; simp at h
    | cons y l ih =>
      intro i s h
      cases i with
      | zero => simp at h; subst h; simp
      | succ i =>
        have := ih i s (by simpa using h)
        rw [show (i + 1) * 2 = i * 2 + 1 + 1 by omega]
        simpa using this
  obtain ⟨h0, h1⟩ := hc l i s hs
  rw [Nat.zero_add]
  exact ⟨h.2 _ _ (by rw [hcs]; simpa using h0), h.2 _ _ (by rw [hcs]; simpa using h1)⟩
end Go.Proofs.YtleejffjnknohaaGreat.V4

namespace Go.Proofs.YtleejffjnknohaaGreat.V4
open Go.RowKit Go.Shelf
open C3 (Tk isC belAl drewB cmpC)
open S2 (Sc Tr isT allocB)

theorem tick_ok (p x : Int) (hp : 0 ≤ p ∧ p ≤ 1000) (hx : 1 ≤ x) : isC [⟨p, x⟩] = true := by
  unfold C3.isC C3.bad
  simp [C3.Asc]
  omega

/-- A clock of one tick that lies in block b. -/
def ckOne (b : Nat) (p x : Int) : Ck := ⟨some ⟨b, 0, none⟩, 1, [⟨p, x⟩]⟩
theorem ckOne_in {W : World} {b : Nat} {p x : Int} (h : Bxd W b #[.int .i64 p, .int .u64 x]) (hx : 0 ≤ x ∧ x ≤ 18446744073709551615) : (ckOne b p x).Inp (fun b => b < W.heap.size) W := by
  refine ⟨.inr ⟨b, 0, rfl, h.1, fun i u hu => ?_⟩, by simp [ckOne], by simp [ckOne, maxLen], fun t ht => ?_, by simp [ckOne]⟩
  · rw [Nat.zero_add]
    exact h.2 i u (by simpa [ckOne, C3.cellsT] using hu)
  · simp [ckOne] at ht
    subst ht
    exact hx

/-- A value of clocks and values that lie in blocks c and v. -/
def vlCV (n m : Int) (sA : Option Addr) (ss : List Str) (c : Nat) (cs : List Ck) (v : Nat) (vs : List Vl) : Vl := .mk n m sA ss.length ss (some ⟨c, 0, none⟩) cs.length cs (some ⟨v, 0, none⟩) vs.length vs
theorem vlCV_in {W : World} {c v : Nat} {cs : List Ck} {vs : List Vl} {c1 c2 : Array Value} (hc : Bxd W c c1) (e1 : c1 = (cellsC cs).toArray) (hv : Bxd W v c2) (e2 : c2 = (cellsV vs).toArray) (l1 : cs.length ≤ 1000) (l2 : vs.length ≤ 1000)
    (h1 : ∀ k ∈ cs, k.Inp (fun b => b < W.heap.size) W) (h2 : ∀ x ∈ vs, x.In W) : (vlCV 0 0 none [] c cs v vs).In W := by
  refine .mk _ _ _ _ _ _ _ _ _ _ _ (by omega) (by omega) .nil (by simp [maxLen]) (by simp) (.inr ⟨c, 0, rfl, hc.1, fun i u hu => ?_⟩) (by simp [maxLen]; omega) h1 (.inr ⟨v, 0, rfl, hv.1, fun i u hu => ?_⟩) (by simp [maxLen]; omega) h2
  · rw [Nat.zero_add]
    exact hc.2 i u (by rw [e1]; simpa using hu)
  · rw [Nat.zero_add]
    exact hv.2 i u (by rw [e2]; simpa using hu)
end Go.Proofs.YtleejffjnknohaaGreat.V4

namespace Go.Proofs.YtleejffjnknohaaGreat.J5
open Go.RowKit Go.Shelf
open C3 (Tk isC cmpC)
open S2 (Sc Tr isT)
open V4 (Va Vl Ck isV botT ApR tick_ok)

theorem retK_ok {w : World} {o : Except Int Va} {z : Va} {e : Ending} {w' : World} (h : RetK w o e w') (ho : o = .ok z) : ∃ x : Vl, e = .returned (.tuple #[x.val, .nilIface]) ∧ x.er = z ∧ x.Inp (fun b => w.heap.size ≤ b ∧ b < w'.heap.size) w' ∧ Below w.heap.size w w' := by
  rcases h with ⟨x, h1, h2⟩ | ⟨n, h1, _⟩
  · rw [ho] at h1
    exact ⟨x, h2.1, (Except.ok.inj h1).symm, h2.2⟩
  · rw [ho] at h1; cases h1
theorem retK_err {w : World} {o : Except Int Va} {n : Int} {e : Ending} {w' : World} (h : RetK w o e w') (ho : o = .error n) : e = .returned (.tuple #[vlZ.val, errV n]) ∧ Below w.heap.size w w' := by
  rcases h with ⟨x, h1, h2⟩ | ⟨m, h1, h2⟩
  · rw [ho] at h1; cases h1
  · rw [ho] at h1
    cases h1; exact h2

theorem joinF_ok {t : Tr} {x y z : Va} (ht : isT 16 t = true) (vx : isV t x = true) (vy : isV t y = true) (hj : joinE t x y = some z) : joinF t x y = .ok z := by
  unfold joinF stepE
  rw [if_pos ht, if_pos ⟨vx, vy⟩, hj]
theorem joinF_large {t : Tr} {x y : Va} (ht : isT 16 t = true) (vx : isV t x = true) (vy : isV t y = true) (hj : joinE t x y = none) : joinF t x y = .error 13 := by
  unfold joinF stepE
  rw [if_pos ht, if_pos ⟨vx, vy⟩, hj]
theorem joinF_type {t : Tr} {x y : Va} (h : isV t x = false ∨ isV t y = false) : joinF t x y = .error 14 :=
  joinF_no (h.imp (fun h => by rw [h, Bool.and_false]) (fun h => by rw [h, Bool.and_false]))

/-- A number as a value. -/
def numE (n : Int) : Va := .mk n 0 [] [] []
theorem is_num (n : Int) : isV (.mk 1 []) (numE n) = true := (isV_num (.inl rfl)).2 ⟨n, rfl, by simp⟩
theorem joinE_num (a b : Int) : joinE (.mk 1 []) (numE a) (numE b) = some (numE (max a b)) := by
  rw [joinE, if_neg (by decide), if_neg (by decide), if_neg (by decide)]; rfl
theorem isT_3 : isT 16 (.mk 3 []) = true := by decide
theorem isT_6 : isT 16 (.mk 6 []) = true := by decide
theorem isT_81 : isT 16 (.mk 8 [.mk 1 []]) = true := by decide

/-- One version. -/
def verE (k n v : Int) : Va := .mk 0 0 [] [[⟨k, n⟩]] [numE v]
theorem is_ver (k n v : Int) (hk : 0 ≤ k ∧ k ≤ 1000) (hn : 1 ≤ n) : isV (.mk 8 [.mk 1 []]) (verE k n v) = true := by
  refine isV_cause.2 ⟨_, _, rfl, rfl, by simp, by simp, fun c hc => ?_, fun y hy => ?_⟩
  · rw [List.mem_singleton] at hc
    subst hc
    exact tick_ok k n hk hn
  · rw [List.mem_singleton] at hy
    subst hy
    exact is_num v

theorem cmpT_one (k n m : Int) (h : n < m) : cmpT [⟨k, n⟩] [⟨k, m⟩] = -1 := by
  unfold cmpT
  have h1 : V4.aheadC [⟨k, n⟩] [⟨k, m⟩] = true := by
    simp only [V4.aheadC, if_true]
    rw [if_neg (by omega)]
    exact decide_eq_true h
  rw [if_pos h1]

theorem kn_j1 : joinF (.mk 3 []) (.mk 0 0 [[97]] [] []) (.mk 0 0 [[98]] [] []) = .ok (.mk 0 0 [[97], [98]] [] []) := by
  refine joinF_ok isT_3 (isV_set.2 ⟨_, rfl, by simp, by simp, rfl⟩) (isV_set.2 ⟨_, rfl, by simp, by simp, rfl⟩) ?_
  rw [joinE, if_pos rfl]
  rfl
theorem no_num {s : List Str} : isV (.mk 3 []) (.mk 1 0 s [] []) = false := by
  cases h : isV (.mk 3 []) (.mk 1 0 s [] []) with
  | false => rfl
  | true =>
    obtain ⟨t, e, _⟩ := isV_set.1 h
    cases e
theorem kn_j2 (x : Va) : joinF (.mk 3 []) x (.mk 1 0 [] [] []) = .error 14 := joinF_type (.inr no_num)
theorem kn_j3 : joinF (.mk 8 [.mk 1 []]) (verE 1 1 9) (verE 1 2 3) = .ok (verE 1 2 3) := by
  refine joinF_ok isT_81 (is_ver 1 1 9 (by omega) (by omega)) (is_ver 1 2 3 (by omega) (by omega)) ?_
  rw [joinE, if_neg (by decide)]
  unfold causeE verE
  simp only [Va.c, Va.v, List.zip_cons_cons, List.zip_nil_left]
  rw [mix_lt _ _ _ _ (by rw [cmpT_one 1 1 2 (by omega)]; decide), mix_right, mix_nil]
  rw [List.filter_cons_of_neg (by decide), List.filter_cons_of_pos (by decide), List.filter_nil]
  unfold togE
  rw [if_neg (by simp)]
  simp only [allE]
  rw [show (Va.zero : Va) = numE 0 from rfl, joinE_num]
  rfl
theorem kn_j4 : allF (.mk 3 []) [] = .ok .zero := by
  unfold allF
  rw [if_pos isT_3, V4.botT_zero (by simp [Tr.k])]
  rfl
theorem noP_leaf {k : Int} (h : k ≠ 5) : NoP (.mk k []) := .mk _ _ h (fun _ h => by cases h)
theorem noP_one {k : Int} {a : Tr} (h : k ≠ 5) (ha : NoP a) : NoP (.mk k [a]) := .mk _ _ h (fun x hx => by rw [List.mem_singleton.1 hx]; exact ha)

end Go.Proofs.YtleejffjnknohaaGreat.J5

namespace Go.Proofs.YtleejffjnknohaaGreat.J5
open Go.RowKit Go.Shelf Go.Extern.Stop Go.Stop Go.Extern

theorem Tryz.eqTypeOf (v : Value) (w : World) : (Extern.ReflectliteType.typeOf #[.iface 39 v]).run Tryz.prog w = .ok (.iface 72 (.agg #[.pointer (some ⟨1, 39, none⟩)])) w := by kernel_rfl
/-- Whether its values can be compared. -/
def cmpX : Array Value → Sem Value := Extern.ReflectliteType.method fun t => do Go.Extern.Rtype.noPackHeld "Comparable" t; pure (.bool (← typeInfo t).comparable)
theorem Tryz.eqComparable (w : World) : (cmpX #[.agg #[.pointer (some ⟨1, 39, none⟩)]]).run Tryz.prog w = .ok (.bool true) w := by kernel_rfl
theorem Tryz.eqMethod (v : Value) (w : World) : (Go.method 316 72 v "Comparable").run Tryz.prog w = .ok (163, v) w := by kernel_rfl
theorem Tryz.eqComp : (Tryz.prog.info? 39).map (·.comparable) = some true := by kernel_rfl
theorem Tryz.noIsN (v : Value) (xT : TypeId) (w : World) : (Instr.typeAssert (.iface 39 v) xT 74 true).run Tryz.prog w = .ok (.tuple #[.nilIface, .bool false]) w := run_typeAssert_lacksB Tryz.underlying74 (by kernel_rfl) (by kernel_rfl) v xT w
theorem Tryz.noUnwrapN (v : Value) (xT : TypeId) (w : World) : (Instr.typeAssert (.iface 39 v) xT 77 true).run Tryz.prog w = .ok (.tuple #[.nilIface, .bool false]) w := run_typeAssert_lacksB Tryz.underlying77 (by kernel_rfl) (by kernel_rfl) v xT w
theorem Tryz.noUnwrapsN (v : Value) (xT : TypeId) (w : World) : (Instr.typeAssert (.iface 39 v) xT 79 true).run Tryz.prog w = .ok (.tuple #[.nilIface, .bool false]) w := run_typeAssert_lacksB Tryz.underlying79 (by kernel_rfl) (by kernel_rfl) v xT w

theorem run_eql_errno (n m : Int) (w : World) : (binOp .eql 35 (errV n) (errV m)).run Tryz.prog w = .ok (.bool (decide (n = m))) w := by
  obtain ⟨i, hi, hcmp⟩ := Option.map_eq_some_iff.1 Tryz.eqComp
  have hu := Tryz.underlying35
  have he := Tryz.underlying39
  unfold errV
  have h : ∀ d : Nat, (Op.equalIn (d + 2) 35 (.iface 39 (.int .i64 n)) (.iface 39 (.int .i64 m))).run Tryz.prog w = .ok (decide (n = m)) w := fun d => by
    simp [Op.equalIn, run_underlying hu, run_underlying he, typeInfo, hi, hcmp]
    rfl
  simp only [binOp]
  simp [Op.equal, Op.maxDepth, h 9998]

set_option maxRecDepth 100000 in
set_option maxHeartbeats 1000000 in
theorem is_any (n m : Int) (w : World) : Calls Tryz.prog 13 #[errV n, errV m] w (RetV w (.bool (decide (n = m)))) := by
  have h25 := @run_callFunc_extern Tryz.prog 25 _ Extern.ReflectliteType.typeOf Tryz.func25 (by kernel_rfl) (by kernel_rfl) (by kernel_rfl) (by kernel_rfl)
  have h63 := @run_callFunc_extern Tryz.prog 163 _ cmpX Tryz.func163 (by kernel_rfl) (by kernel_rfl) (by kernel_rfl) (by kernel_rfl)
  have tT := Tryz.eqTypeOf
  have cT := Tryz.eqComparable
  have mR := Tryz.eqMethod
  have nE := Tryz.noIsN
  have uE := Tryz.noUnwrapN
  have vE := Tryz.noUnwrapsN
  have heq := run_eql_errno n m w
  obtain ⟨q, hq⟩ : ∃ q, decide (n = m) = q := ⟨_, rfl⟩
  rw [hq] at heq
  rw [hq]
  clear hq
  unfold errV at heq ⊢
  cases q with
  | true =>
    go_enter Tryz.func13, Tryz.ntmps13
    go_wp2
    refine wp_loop_rounds 1 ?_
    rw [rounds_succ]
    go_wp2
    go_ret
    exact ⟨rfl, Below.refl _ _⟩
  | false =>
    go_enter Tryz.func13, Tryz.ntmps13
    go_wp2
    refine wp_loop_rounds 1 ?_
    rw [rounds_succ]
    go_wp2
    go_ret
    exact ⟨rfl, Below.refl _ _⟩
end Go.Proofs.YtleejffjnknohaaGreat.J5

namespace Go.Proofs.YtleejffjnknohaaGreat.J5
open Go.RowKit Go.Shelf
open C3 (Tk belAl allocB)
open S2 (Sc Tr isT)
open V4 (Va Vl Ck isV botT Bxd val_mk er_mk scLeaf scLeaf_in scRow scRow_in vlNum vlNum_in vlTexts vlTexts_in ckOne ckOne_in vlCV vlCV_in mk_inj)

set_option maxHeartbeats 400000 in
theorem of_any (k : Int) (A : Option Addr) (n c : Nat) (w : World) : Calls Tryz.prog 16 #[.int .i64 k, .slice A n c] w (RetV w (.agg #[.int .i64 k, .slice A n c])) := by
  go_enter Tryz.func16, Tryz.ntmps16
  go_wp2_with fail
  refine bodyPost_ret (S2.results_cellS rfl _ _ w.heap.size (.int .i64 k) (.slice A n c) rfl (by go_simp) (by go_simp)) rfl ?_
  exact ⟨rfl, belAl (Below.refl _ _)⟩

/-- What is in new memory is in memory. -/
theorem inn {P : Nat → Prop} {W : World} {x : Vl} (h : x.Inp (fun b => P b ∧ b < W.heap.size) W) : x.In W := h.mono fun _ h => h.2

set_option maxRecDepth 100000 in
set_option maxHeartbeats 4000000 in
theorem known_any (w : World) : Calls Tryz.prog 11 #[] w (RetV w (.bool true)) := by
  obtain ⟨W1, hW1⟩ : ∃ W1, (((w.alloc (.cells #[.int .i64 3, .slice none 0 0] 24)).alloc (.cells #[.string ⟨#[97]⟩] 9)).alloc (.cells #[.string ⟨#[98]⟩] 9)) = W1 := ⟨_, rfl⟩
  have bW1 : Below w.heap.size w W1 := by rw [← hW1]; exact belAl (belAl (belAl (Below.refl _ _)))
  have X0 : Bxd W1 (w.heap.size) #[.int .i64 3, .slice none 0 0] := by
    rw [← hW1]
    have := V4.Bxd.new (W := w) (cs := #[.int .i64 3, .slice none 0 0]) (t := 24)
    exact (this.al _).al _
  have X1 : Bxd W1 (w.heap.size + 1) #[.string ⟨#[97]⟩] := by
    rw [← hW1]
    have := V4.Bxd.new (W := (w.alloc (.cells #[.int .i64 3, .slice none 0 0] 24))) (cs := #[.string ⟨#[97]⟩]) (t := 9)
    rw [World.size_alloc] at this
    exact this.al _
  have X2 : Bxd W1 (w.heap.size + 1 + 1) #[.string ⟨#[98]⟩] := by
    rw [← hW1]
    have := V4.Bxd.new (W := ((w.alloc (.cells #[.int .i64 3, .slice none 0 0] 24)).alloc (.cells #[.string ⟨#[97]⟩] 9))) (cs := #[.string ⟨#[98]⟩]) (t := 9)
    rw [World.size_alloc, World.size_alloc] at this
    exact this
  have BW1 : Below w.heap.size w W1 := bW1
  have I1 : (vlTexts 0 (w.heap.size + 1) [[97]]).In W1 := vlTexts_in 0 (by omega) X1 rfl (by simp) (by simp)
  have I2 : (vlTexts 0 (w.heap.size + 1 + 1) [[98]]).In W1 := vlTexts_in 0 (by omega) X2 rfl (by simp) (by simp)
  have HJ := Lib.hid (Join_any False False.elim (scLeaf 3) (vlTexts 0 (w.heap.size + 1) [[97]]) (vlTexts 0 (w.heap.size + 1 + 1) [[98]]) W1 (scLeaf_in _ _ _) I1 I2 (fun _ => .inr (noP_leaf (by decide))))
  have l0 : W1.cell? ⟨w.heap.size, 0, none⟩ = some (.int .i64 3) := X0.2 0 _ rfl
  have l1 : W1.cell? ⟨w.heap.size, 1, none⟩ = some (.slice none 0 0) := X0.2 1 _ rfl
  clear I1 I2 X1 X2
  go_enter Tryz.func11, Tryz.ntmps11
  go_wp2_with fail
  refine HJ.out.mono ?_
  clear HJ hW1
  rintro e U1 hr
  obtain ⟨⟨an, am, asA, asc, ass, acA, acc, acs, avA, avc, avs⟩, rfl, hae, hai, bU1⟩ := retK_ok hr kn_j1
  rw [er_mk, mk_inj] at hae
  obtain ⟨rfl, rfl, rfl, hc, hv⟩ := hae
  obtain rfl := List.map_eq_nil_iff.1 hc
  obtain rfl := List.map_eq_nil_iff.1 hv
  have I1 := inn hai
  simp only [val_mk, List.length_cons, List.length_nil, Nat.zero_add, Nat.reduceAdd]
  clear hr hai hc hv
  clear l0 l1
  replace X0 := X0.later bU1
  have BU1 : Below w.heap.size w U1 := BW1.trans (bU1.mono BW1.size)
  obtain ⟨W2, hW2⟩ : ∃ W2, (U1.alloc (.cells #[.int .u64 0, .int .u64 0, .slice asA 2 asc, .slice acA 0 acc, .slice avA 0 avc] 32)) = W2 := ⟨_, rfl⟩
  have bW2 : Below U1.heap.size U1 W2 := by rw [← hW2]; exact belAl (Below.refl _ _)
  have X2 : Bxd W2 (U1.heap.size) #[.int .u64 0, .int .u64 0, .slice asA 2 asc, .slice acA 0 acc, .slice avA 0 avc] := by
    rw [← hW2]
    have := V4.Bxd.new (W := U1) (cs := #[.int .u64 0, .int .u64 0, .slice asA 2 asc, .slice acA 0 acc, .slice avA 0 avc]) (t := 32)
    exact this
  replace X0 := X0.later bW2
  replace I1 := I1.later bW2
  have BW2 : Below w.heap.size w W2 := BU1.trans (bW2.mono BU1.size)
  have HJ := Lib.hid (Join_any False False.elim (scLeaf 3) (.mk 0 0 asA asc [[97], [98]] acA acc [] avA avc []) (vlNum 1) W2 (scLeaf_in _ _ _) I1 (vlNum_in 1 (by omega) _ _) (fun _ => .inr (noP_leaf (by decide))))
  have l2 : W2.cell? ⟨w.heap.size, 0, none⟩ = some (.int .i64 3) := X0.2 0 _ rfl
  have l3 : W2.cell? ⟨w.heap.size, 1, none⟩ = some (.slice none 0 0) := X0.2 1 _ rfl
  have l4 : W2.cell? ⟨U1.heap.size, 0, none⟩ = some (.int .u64 0) := X2.2 0 _ rfl
  have l5 : W2.cell? ⟨U1.heap.size, 1, none⟩ = some (.int .u64 0) := X2.2 1 _ rfl
  have l6 : W2.cell? ⟨U1.heap.size, 2, none⟩ = some (.slice asA 2 asc) := X2.2 2 _ rfl
  have l7 : W2.cell? ⟨U1.heap.size, 3, none⟩ = some (.slice acA 0 acc) := X2.2 3 _ rfl
  have l8 : W2.cell? ⟨U1.heap.size, 4, none⟩ = some (.slice avA 0 avc) := X2.2 4 _ rfl
  go_wp2_with fail
  refine HJ.out.mono ?_
  clear HJ hW2
  rintro e U2 hr
  obtain ⟨rfl, bU2⟩ := retK_err hr (kn_j2 _)
  simp only [vlZ_val]
  unfold errV
  clear hr
  clear l2 l3 l4 l5 l6 l7 l8
  clear I1
  replace X0 := X0.later bU2
  replace X2 := X2.later bU2
  have BU2 : Below w.heap.size w U2 := BW2.trans (bU2.mono BW2.size)
  obtain ⟨W3, hW3⟩ : ∃ W3, (((((((((((U2.alloc (.cells #[.int .u64 0, .int .u64 0, .slice none 0 0, .slice none 0 0, .slice none 0 0] 32)).alloc (.cells #[.int .i64 1, .slice none 0 0] 24)).alloc (.cells #[.int .i64 8, .slice (some ⟨U2.heap.size + 1, 0, none⟩) 1 1] 24)).alloc (.cells #[.int .i64 1, .int .u64 1] 57)).alloc (.cells #[.slice (some ⟨U2.heap.size + 1 + 1 + 1, 0, none⟩) 1 1] 55)).alloc (.cells #[.int .u64 9, .int .u64 0, .slice none 0 0, .slice none 0 0, .slice none 0 0] 32)).alloc (.cells #[.int .u64 0, .int .u64 0, .slice none 0 0, .slice (some ⟨U2.heap.size + 1 + 1 + 1 + 1, 0, none⟩) 1 1, .slice (some ⟨U2.heap.size + 1 + 1 + 1 + 1 + 1, 0, none⟩) 1 1] 32)).alloc (.cells #[.int .i64 1, .int .u64 2] 57)).alloc (.cells #[.slice (some ⟨U2.heap.size + 1 + 1 + 1 + 1 + 1 + 1 + 1, 0, none⟩) 1 1] 55)).alloc (.cells #[.int .u64 3, .int .u64 0, .slice none 0 0, .slice none 0 0, .slice none 0 0] 32)).alloc (.cells #[.int .u64 0, .int .u64 0, .slice none 0 0, .slice (some ⟨U2.heap.size + 1 + 1 + 1 + 1 + 1 + 1 + 1 + 1, 0, none⟩) 1 1, .slice (some ⟨U2.heap.size + 1 + 1 + 1 + 1 + 1 + 1 + 1 + 1 + 1, 0, none⟩) 1 1] 32)) = W3 := ⟨_, rfl⟩
  have bW3 : Below U2.heap.size U2 W3 := by rw [← hW3]; exact belAl (belAl (belAl (belAl (belAl (belAl (belAl (belAl (belAl (belAl (belAl (Below.refl _ _)))))))))))
  have X5 : Bxd W3 (U2.heap.size + 1) #[.int .i64 1, .slice none 0 0] := by
    rw [← hW3]
    have := V4.Bxd.new (W := (U2.alloc (.cells #[.int .u64 0, .int .u64 0, .slice none 0 0, .slice none 0 0, .slice none 0 0] 32))) (cs := #[.int .i64 1, .slice none 0 0]) (t := 24)
    rw [World.size_alloc] at this
    exact ((((((((this.al _).al _).al _).al _).al _).al _).al _).al _).al _
  have X6 : Bxd W3 (U2.heap.size + 1 + 1) #[.int .i64 8, .slice (some ⟨U2.heap.size + 1, 0, none⟩) 1 1] := by
    rw [← hW3]
    have := V4.Bxd.new (W := ((U2.alloc (.cells #[.int .u64 0, .int .u64 0, .slice none 0 0, .slice none 0 0, .slice none 0 0] 32)).alloc (.cells #[.int .i64 1, .slice none 0 0] 24))) (cs := #[.int .i64 8, .slice (some ⟨U2.heap.size + 1, 0, none⟩) 1 1]) (t := 24)
    rw [World.size_alloc, World.size_alloc] at this
    exact (((((((this.al _).al _).al _).al _).al _).al _).al _).al _
  have Xa : Bxd W3 (U2.heap.size + 1 + 1 + 1) #[.int .i64 1, .int .u64 1] := by
    rw [← hW3]
    have := V4.Bxd.new (W := (((U2.alloc (.cells #[.int .u64 0, .int .u64 0, .slice none 0 0, .slice none 0 0, .slice none 0 0] 32)).alloc (.cells #[.int .i64 1, .slice none 0 0] 24)).alloc (.cells #[.int .i64 8, .slice (some ⟨U2.heap.size + 1, 0, none⟩) 1 1] 24))) (cs := #[.int .i64 1, .int .u64 1]) (t := 57)
    rw [World.size_alloc, World.size_alloc, World.size_alloc] at this
    exact ((((((this.al _).al _).al _).al _).al _).al _).al _
  have Xb : Bxd W3 (U2.heap.size + 1 + 1 + 1 + 1) #[.slice (some ⟨U2.heap.size + 1 + 1 + 1, 0, none⟩) 1 1] := by
    rw [← hW3]
    have := V4.Bxd.new (W := ((((U2.alloc (.cells #[.int .u64 0, .int .u64 0, .slice none 0 0, .slice none 0 0, .slice none 0 0] 32)).alloc (.cells #[.int .i64 1, .slice none 0 0] 24)).alloc (.cells #[.int .i64 8, .slice (some ⟨U2.heap.size + 1, 0, none⟩) 1 1] 24)).alloc (.cells #[.int .i64 1, .int .u64 1] 57))) (cs := #[.slice (some ⟨U2.heap.size + 1 + 1 + 1, 0, none⟩) 1 1]) (t := 55)
    rw [World.size_alloc, World.size_alloc, World.size_alloc, World.size_alloc] at this
    exact (((((this.al _).al _).al _).al _).al _).al _
  have Xc : Bxd W3 (U2.heap.size + 1 + 1 + 1 + 1 + 1) #[.int .u64 9, .int .u64 0, .slice none 0 0, .slice none 0 0, .slice none 0 0] := by
    rw [← hW3]
    have := V4.Bxd.new (W := (((((U2.alloc (.cells #[.int .u64 0, .int .u64 0, .slice none 0 0, .slice none 0 0, .slice none 0 0] 32)).alloc (.cells #[.int .i64 1, .slice none 0 0] 24)).alloc (.cells #[.int .i64 8, .slice (some ⟨U2.heap.size + 1, 0, none⟩) 1 1] 24)).alloc (.cells #[.int .i64 1, .int .u64 1] 57)).alloc (.cells #[.slice (some ⟨U2.heap.size + 1 + 1 + 1, 0, none⟩) 1 1] 55))) (cs := #[.int .u64 9, .int .u64 0, .slice none 0 0, .slice none 0 0, .slice none 0 0]) (t := 32)
    rw [World.size_alloc, World.size_alloc, World.size_alloc, World.size_alloc, World.size_alloc] at this
    exact ((((this.al _).al _).al _).al _).al _
  have X7 : Bxd W3 (U2.heap.size + 1 + 1 + 1 + 1 + 1 + 1) #[.int .u64 0, .int .u64 0, .slice none 0 0, .slice (some ⟨U2.heap.size + 1 + 1 + 1 + 1, 0, none⟩) 1 1, .slice (some ⟨U2.heap.size + 1 + 1 + 1 + 1 + 1, 0, none⟩) 1 1] := by
    rw [← hW3]
    have := V4.Bxd.new (W := ((((((U2.alloc (.cells #[.int .u64 0, .int .u64 0, .slice none 0 0, .slice none 0 0, .slice none 0 0] 32)).alloc (.cells #[.int .i64 1, .slice none 0 0] 24)).alloc (.cells #[.int .i64 8, .slice (some ⟨U2.heap.size + 1, 0, none⟩) 1 1] 24)).alloc (.cells #[.int .i64 1, .int .u64 1] 57)).alloc (.cells #[.slice (some ⟨U2.heap.size + 1 + 1 + 1, 0, none⟩) 1 1] 55)).alloc (.cells #[.int .u64 9, .int .u64 0, .slice none 0 0, .slice none 0 0, .slice none 0 0] 32))) (cs := #[.int .u64 0, .int .u64 0, .slice none 0 0, .slice (some ⟨U2.heap.size + 1 + 1 + 1 + 1, 0, none⟩) 1 1, .slice (some ⟨U2.heap.size + 1 + 1 + 1 + 1 + 1, 0, none⟩) 1 1]) (t := 32)
    rw [World.size_alloc, World.size_alloc, World.size_alloc, World.size_alloc, World.size_alloc, World.size_alloc] at this
    exact (((this.al _).al _).al _).al _
  have Xd : Bxd W3 (U2.heap.size + 1 + 1 + 1 + 1 + 1 + 1 + 1) #[.int .i64 1, .int .u64 2] := by
    rw [← hW3]
    have := V4.Bxd.new (W := (((((((U2.alloc (.cells #[.int .u64 0, .int .u64 0, .slice none 0 0, .slice none 0 0, .slice none 0 0] 32)).alloc (.cells #[.int .i64 1, .slice none 0 0] 24)).alloc (.cells #[.int .i64 8, .slice (some ⟨U2.heap.size + 1, 0, none⟩) 1 1] 24)).alloc (.cells #[.int .i64 1, .int .u64 1] 57)).alloc (.cells #[.slice (some ⟨U2.heap.size + 1 + 1 + 1, 0, none⟩) 1 1] 55)).alloc (.cells #[.int .u64 9, .int .u64 0, .slice none 0 0, .slice none 0 0, .slice none 0 0] 32)).alloc (.cells #[.int .u64 0, .int .u64 0, .slice none 0 0, .slice (some ⟨U2.heap.size + 1 + 1 + 1 + 1, 0, none⟩) 1 1, .slice (some ⟨U2.heap.size + 1 + 1 + 1 + 1 + 1, 0, none⟩) 1 1] 32))) (cs := #[.int .i64 1, .int .u64 2]) (t := 57)
    rw [World.size_alloc, World.size_alloc, World.size_alloc, World.size_alloc, World.size_alloc, World.size_alloc, World.size_alloc] at this
    exact ((this.al _).al _).al _
  have Xe : Bxd W3 (U2.heap.size + 1 + 1 + 1 + 1 + 1 + 1 + 1 + 1) #[.slice (some ⟨U2.heap.size + 1 + 1 + 1 + 1 + 1 + 1 + 1, 0, none⟩) 1 1] := by
    rw [← hW3]
    have := V4.Bxd.new (W := ((((((((U2.alloc (.cells #[.int .u64 0, .int .u64 0, .slice none 0 0, .slice none 0 0, .slice none 0 0] 32)).alloc (.cells #[.int .i64 1, .slice none 0 0] 24)).alloc (.cells #[.int .i64 8, .slice (some ⟨U2.heap.size + 1, 0, none⟩) 1 1] 24)).alloc (.cells #[.int .i64 1, .int .u64 1] 57)).alloc (.cells #[.slice (some ⟨U2.heap.size + 1 + 1 + 1, 0, none⟩) 1 1] 55)).alloc (.cells #[.int .u64 9, .int .u64 0, .slice none 0 0, .slice none 0 0, .slice none 0 0] 32)).alloc (.cells #[.int .u64 0, .int .u64 0, .slice none 0 0, .slice (some ⟨U2.heap.size + 1 + 1 + 1 + 1, 0, none⟩) 1 1, .slice (some ⟨U2.heap.size + 1 + 1 + 1 + 1 + 1, 0, none⟩) 1 1] 32)).alloc (.cells #[.int .i64 1, .int .u64 2] 57))) (cs := #[.slice (some ⟨U2.heap.size + 1 + 1 + 1 + 1 + 1 + 1 + 1, 0, none⟩) 1 1]) (t := 55)
    rw [World.size_alloc, World.size_alloc, World.size_alloc, World.size_alloc, World.size_alloc, World.size_alloc, World.size_alloc, World.size_alloc] at this
    exact (this.al _).al _
  have Xf : Bxd W3 (U2.heap.size + 1 + 1 + 1 + 1 + 1 + 1 + 1 + 1 + 1) #[.int .u64 3, .int .u64 0, .slice none 0 0, .slice none 0 0, .slice none 0 0] := by
    rw [← hW3]
    have := V4.Bxd.new (W := (((((((((U2.alloc (.cells #[.int .u64 0, .int .u64 0, .slice none 0 0, .slice none 0 0, .slice none 0 0] 32)).alloc (.cells #[.int .i64 1, .slice none 0 0] 24)).alloc (.cells #[.int .i64 8, .slice (some ⟨U2.heap.size + 1, 0, none⟩) 1 1] 24)).alloc (.cells #[.int .i64 1, .int .u64 1] 57)).alloc (.cells #[.slice (some ⟨U2.heap.size + 1 + 1 + 1, 0, none⟩) 1 1] 55)).alloc (.cells #[.int .u64 9, .int .u64 0, .slice none 0 0, .slice none 0 0, .slice none 0 0] 32)).alloc (.cells #[.int .u64 0, .int .u64 0, .slice none 0 0, .slice (some ⟨U2.heap.size + 1 + 1 + 1 + 1, 0, none⟩) 1 1, .slice (some ⟨U2.heap.size + 1 + 1 + 1 + 1 + 1, 0, none⟩) 1 1] 32)).alloc (.cells #[.int .i64 1, .int .u64 2] 57)).alloc (.cells #[.slice (some ⟨U2.heap.size + 1 + 1 + 1 + 1 + 1 + 1 + 1, 0, none⟩) 1 1] 55))) (cs := #[.int .u64 3, .int .u64 0, .slice none 0 0, .slice none 0 0, .slice none 0 0]) (t := 32)
    rw [World.size_alloc, World.size_alloc, World.size_alloc, World.size_alloc, World.size_alloc, World.size_alloc, World.size_alloc, World.size_alloc, World.size_alloc] at this
    exact this.al _
  have X8 : Bxd W3 (U2.heap.size + 1 + 1 + 1 + 1 + 1 + 1 + 1 + 1 + 1 + 1) #[.int .u64 0, .int .u64 0, .slice none 0 0, .slice (some ⟨U2.heap.size + 1 + 1 + 1 + 1 + 1 + 1 + 1 + 1, 0, none⟩) 1 1, .slice (some ⟨U2.heap.size + 1 + 1 + 1 + 1 + 1 + 1 + 1 + 1 + 1, 0, none⟩) 1 1] := by
    rw [← hW3]
    have := V4.Bxd.new (W := ((((((((((U2.alloc (.cells #[.int .u64 0, .int .u64 0, .slice none 0 0, .slice none 0 0, .slice none 0 0] 32)).alloc (.cells #[.int .i64 1, .slice none 0 0] 24)).alloc (.cells #[.int .i64 8, .slice (some ⟨U2.heap.size + 1, 0, none⟩) 1 1] 24)).alloc (.cells #[.int .i64 1, .int .u64 1] 57)).alloc (.cells #[.slice (some ⟨U2.heap.size + 1 + 1 + 1, 0, none⟩) 1 1] 55)).alloc (.cells #[.int .u64 9, .int .u64 0, .slice none 0 0, .slice none 0 0, .slice none 0 0] 32)).alloc (.cells #[.int .u64 0, .int .u64 0, .slice none 0 0, .slice (some ⟨U2.heap.size + 1 + 1 + 1 + 1, 0, none⟩) 1 1, .slice (some ⟨U2.heap.size + 1 + 1 + 1 + 1 + 1, 0, none⟩) 1 1] 32)).alloc (.cells #[.int .i64 1, .int .u64 2] 57)).alloc (.cells #[.slice (some ⟨U2.heap.size + 1 + 1 + 1 + 1 + 1 + 1 + 1, 0, none⟩) 1 1] 55)).alloc (.cells #[.int .u64 3, .int .u64 0, .slice none 0 0, .slice none 0 0, .slice none 0 0] 32))) (cs := #[.int .u64 0, .int .u64 0, .slice none 0 0, .slice (some ⟨U2.heap.size + 1 + 1 + 1 + 1 + 1 + 1 + 1 + 1, 0, none⟩) 1 1, .slice (some ⟨U2.heap.size + 1 + 1 + 1 + 1 + 1 + 1 + 1 + 1 + 1, 0, none⟩) 1 1]) (t := 32)
    rw [World.size_alloc, World.size_alloc, World.size_alloc, World.size_alloc, World.size_alloc, World.size_alloc, World.size_alloc, World.size_alloc, World.size_alloc, World.size_alloc] at this
    exact this
  replace X0 := X0.later bW3
  replace X2 := X2.later bW3
  have BW3 : Below w.heap.size w W3 := BU2.trans (bW3.mono BU2.size)
  have S8 : (scRow 8 (U2.heap.size + 1) [scLeaf 1]).In W3.heap.size W3 := scRow_in 8 X5 rfl (by simp) (fun s hs => by rw [List.mem_singleton.1 hs]; exact scLeaf_in _ _ _)
  have I7 : (vlCV 0 0 none [] (U2.heap.size + 1 + 1 + 1 + 1) [ckOne (U2.heap.size + 1 + 1 + 1) 1 1] (U2.heap.size + 1 + 1 + 1 + 1 + 1) [vlNum 9]).In W3 := vlCV_in Xb rfl Xc rfl (by simp) (by simp) (fun k hk => by rw [List.mem_singleton.1 hk]; exact ckOne_in Xa (by omega)) (fun x hx => by rw [List.mem_singleton.1 hx]; exact vlNum_in _ (by omega) _ _)
  have I8 : (vlCV 0 0 none [] (U2.heap.size + 1 + 1 + 1 + 1 + 1 + 1 + 1 + 1) [ckOne (U2.heap.size + 1 + 1 + 1 + 1 + 1 + 1 + 1) 1 2] (U2.heap.size + 1 + 1 + 1 + 1 + 1 + 1 + 1 + 1 + 1) [vlNum 3]).In W3 := vlCV_in Xe rfl Xf rfl (by simp) (by simp) (fun k hk => by rw [List.mem_singleton.1 hk]; exact ckOne_in Xd (by omega)) (fun x hx => by rw [List.mem_singleton.1 hx]; exact vlNum_in _ (by omega) _ _)
  have HJ := Lib.hid (Join_any False False.elim (scRow 8 (U2.heap.size + 1) [scLeaf 1]) (vlCV 0 0 none [] (U2.heap.size + 1 + 1 + 1 + 1) [ckOne (U2.heap.size + 1 + 1 + 1) 1 1] (U2.heap.size + 1 + 1 + 1 + 1 + 1) [vlNum 9]) (vlCV 0 0 none [] (U2.heap.size + 1 + 1 + 1 + 1 + 1 + 1 + 1 + 1) [ckOne (U2.heap.size + 1 + 1 + 1 + 1 + 1 + 1 + 1) 1 2] (U2.heap.size + 1 + 1 + 1 + 1 + 1 + 1 + 1 + 1 + 1) [vlNum 3]) W3 S8 I7 I8 (fun _ => .inr (noP_one (by decide) (noP_leaf (by decide)))))
  clear S8 I7 X5 Xa Xb Xc Xd Xe Xf
  have l9 : W3.cell? ⟨U2.heap.size + 1 + 1, 0, none⟩ = some (.int .i64 8) := X6.2 0 _ rfl
  have l10 : W3.cell? ⟨U2.heap.size + 1 + 1, 1, none⟩ = some (.slice (some ⟨U2.heap.size + 1, 0, none⟩) 1 1) := X6.2 1 _ rfl
  have l11 : W3.cell? ⟨U2.heap.size + 1 + 1 + 1 + 1 + 1 + 1, 0, none⟩ = some (.int .u64 0) := X7.2 0 _ rfl
  have l12 : W3.cell? ⟨U2.heap.size + 1 + 1 + 1 + 1 + 1 + 1, 1, none⟩ = some (.int .u64 0) := X7.2 1 _ rfl
  have l13 : W3.cell? ⟨U2.heap.size + 1 + 1 + 1 + 1 + 1 + 1, 2, none⟩ = some (.slice none 0 0) := X7.2 2 _ rfl
  have l14 : W3.cell? ⟨U2.heap.size + 1 + 1 + 1 + 1 + 1 + 1, 3, none⟩ = some (.slice (some ⟨U2.heap.size + 1 + 1 + 1 + 1, 0, none⟩) 1 1) := X7.2 3 _ rfl
  have l15 : W3.cell? ⟨U2.heap.size + 1 + 1 + 1 + 1 + 1 + 1, 4, none⟩ = some (.slice (some ⟨U2.heap.size + 1 + 1 + 1 + 1 + 1, 0, none⟩) 1 1) := X7.2 4 _ rfl
  have l16 : W3.cell? ⟨U2.heap.size + 1 + 1 + 1 + 1 + 1 + 1 + 1 + 1 + 1 + 1, 0, none⟩ = some (.int .u64 0) := X8.2 0 _ rfl
  have l17 : W3.cell? ⟨U2.heap.size + 1 + 1 + 1 + 1 + 1 + 1 + 1 + 1 + 1 + 1, 1, none⟩ = some (.int .u64 0) := X8.2 1 _ rfl
  have l18 : W3.cell? ⟨U2.heap.size + 1 + 1 + 1 + 1 + 1 + 1 + 1 + 1 + 1 + 1, 2, none⟩ = some (.slice none 0 0) := X8.2 2 _ rfl
  have l19 : W3.cell? ⟨U2.heap.size + 1 + 1 + 1 + 1 + 1 + 1 + 1 + 1 + 1 + 1, 3, none⟩ = some (.slice (some ⟨U2.heap.size + 1 + 1 + 1 + 1 + 1 + 1 + 1 + 1, 0, none⟩) 1 1) := X8.2 3 _ rfl
  have l20 : W3.cell? ⟨U2.heap.size + 1 + 1 + 1 + 1 + 1 + 1 + 1 + 1 + 1 + 1, 4, none⟩ = some (.slice (some ⟨U2.heap.size + 1 + 1 + 1 + 1 + 1 + 1 + 1 + 1 + 1, 0, none⟩) 1 1) := X8.2 4 _ rfl
  go_wp2_with fail
  refine HJ.out.mono ?_
  clear HJ hW3
  rintro e U3 hr
  obtain ⟨⟨dn, dm, dsA, dsc, dss, dcA, dcc, dcs, dvA, dvc, dvs⟩, rfl, hde, hdi, bU3⟩ := retK_ok hr kn_j3
  have I9 := inn hdi
  have HE := Lib.hid hde
  simp only [val_mk]
  clear hr hdi hde
  clear l9 l10 l11 l12 l13 l14 l15 l16 l17 l18 l19 l20
  clear X6 X7
  replace X0 := X0.later bU3
  replace X2 := X2.later bU3
  replace X8 := X8.later bU3
  replace I8 := I8.later bU3
  have BU3 : Below w.heap.size w U3 := BW3.trans (bU3.mono BW3.size)
  obtain ⟨W4, hW4⟩ : ∃ W4, (U3.alloc (.cells #[.int .u64 dn, .int .u64 dm, .slice dsA dss.length dsc, .slice dcA dcs.length dcc, .slice dvA dvs.length dvc] 32)) = W4 := ⟨_, rfl⟩
  have bW4 : Below U3.heap.size U3 W4 := by rw [← hW4]; exact belAl (Below.refl _ _)
  have X9 : Bxd W4 (U3.heap.size) #[.int .u64 dn, .int .u64 dm, .slice dsA dss.length dsc, .slice dcA dcs.length dcc, .slice dvA dvs.length dvc] := by
    rw [← hW4]
    have := V4.Bxd.new (W := U3) (cs := #[.int .u64 dn, .int .u64 dm, .slice dsA dss.length dsc, .slice dcA dcs.length dcc, .slice dvA dvs.length dvc]) (t := 32)
    exact this
  replace X0 := X0.later bW4
  replace X2 := X2.later bW4
  replace X8 := X8.later bW4
  replace I8 := I8.later bW4
  replace I9 := I9.later bW4
  have BW4 : Below w.heap.size w W4 := BU3.trans (bW4.mono BU3.size)
  have HJ := Lib.hid (All_any False False.elim (scLeaf 3) none 0 [] W4 (scLeaf_in _ _ _) (.inl rfl) (by simp) (by simp) (fun _ => .inr (noP_leaf (by decide))))
  have l21 : W4.cell? ⟨w.heap.size, 0, none⟩ = some (.int .i64 3) := X0.2 0 _ rfl
  have l22 : W4.cell? ⟨w.heap.size, 1, none⟩ = some (.slice none 0 0) := X0.2 1 _ rfl
  go_wp2_with fail
  refine HJ.out.mono ?_
  clear HJ hW4
  rintro e U4 hr
  obtain ⟨⟨gn, gm, gsA, gsc, gss, gcA, gcc, gcs, gvA, gvc, gvs⟩, rfl, hge, hgi, bU4⟩ := retK_ok hr kn_j4
  have I11 := inn hgi
  have HG := Lib.hid hge
  simp only [val_mk]
  clear hr hgi hge
  clear l21 l22
  replace X0 := X0.later bU4
  replace X2 := X2.later bU4
  replace X8 := X8.later bU4
  replace X9 := X9.later bU4
  replace I8 := I8.later bU4
  replace I9 := I9.later bU4
  have BU4 : Below w.heap.size w U4 := BW4.trans (bU4.mono BW4.size)
  obtain ⟨W5, hW5⟩ : ∃ W5, (U4.alloc (.cells #[.int .u64 gn, .int .u64 gm, .slice gsA gss.length gsc, .slice gcA gcs.length gcc, .slice gvA gvs.length gvc] 32)) = W5 := ⟨_, rfl⟩
  have bW5 : Below U4.heap.size U4 W5 := by rw [← hW5]; exact belAl (Below.refl _ _)
  have X11 : Bxd W5 (U4.heap.size) #[.int .u64 gn, .int .u64 gm, .slice gsA gss.length gsc, .slice gcA gcs.length gcc, .slice gvA gvs.length gvc] := by
    rw [← hW5]
    have := V4.Bxd.new (W := U4) (cs := #[.int .u64 gn, .int .u64 gm, .slice gsA gss.length gsc, .slice gcA gcs.length gcc, .slice gvA gvs.length gvc]) (t := 32)
    exact this
  replace X0 := X0.later bW5
  replace X2 := X2.later bW5
  replace X8 := X8.later bW5
  replace X9 := X9.later bW5
  replace I8 := I8.later bW5
  replace I9 := I9.later bW5
  replace I11 := I11.later bW5
  have BW5 : Below w.heap.size w W5 := BU4.trans (bW5.mono BU4.size)
  have l23 : W5.cell? ⟨U1.heap.size, 0, none⟩ = some (.int .u64 0) := X2.2 0 _ rfl
  have l24 : W5.cell? ⟨U1.heap.size, 1, none⟩ = some (.int .u64 0) := X2.2 1 _ rfl
  have l25 : W5.cell? ⟨U1.heap.size, 2, none⟩ = some (.slice asA 2 asc) := X2.2 2 _ rfl
  have l26 : W5.cell? ⟨U1.heap.size, 3, none⟩ = some (.slice acA 0 acc) := X2.2 3 _ rfl
  have l27 : W5.cell? ⟨U1.heap.size, 4, none⟩ = some (.slice avA 0 avc) := X2.2 4 _ rfl
  have HI := Lib.hid (is_any 14 14 W5)
  rw [decide_eq_true rfl] at HI
  unfold errV at HI
  go_wp2_with fail
  refine HI.out.mono ?_
  clear HI hW5
  rintro e U5 ⟨rfl, bU5⟩
  clear l23 l24 l25 l26 l27
  clear X2
  replace X0 := X0.later bU5
  replace X8 := X8.later bU5
  replace X9 := X9.later bU5
  replace X11 := X11.later bU5
  replace I8 := I8.later bU5
  replace I9 := I9.later bU5
  replace I11 := I11.later bU5
  have BU5 : Below w.heap.size w U5 := BW5.trans (bU5.mono BW5.size)
  have HS := Lib.hid (V4.refSameV_any (Vl.mk dn dm dsA dsc dss dcA dcc dcs dvA dvc dvs) (vlCV 0 0 none [] (U2.heap.size + 1 + 1 + 1 + 1 + 1 + 1 + 1 + 1) [ckOne (U2.heap.size + 1 + 1 + 1 + 1 + 1 + 1 + 1) 1 2] (U2.heap.size + 1 + 1 + 1 + 1 + 1 + 1 + 1 + 1 + 1) [vlNum 3]) U5 I9 I8)
  rw [decide_eq_true (show (Vl.mk dn dm dsA dsc dss dcA dcc dcs dvA dvc dvs).er = (vlCV 0 0 none [] (U2.heap.size + 1 + 1 + 1 + 1 + 1 + 1 + 1 + 1) [ckOne (U2.heap.size + 1 + 1 + 1 + 1 + 1 + 1 + 1) 1 2] (U2.heap.size + 1 + 1 + 1 + 1 + 1 + 1 + 1 + 1 + 1) [vlNum 3]).er from HE.out)] at HS
  have l28 : U5.cell? ⟨U3.heap.size, 0, none⟩ = some (.int .u64 dn) := X9.2 0 _ rfl
  have l29 : U5.cell? ⟨U3.heap.size, 1, none⟩ = some (.int .u64 dm) := X9.2 1 _ rfl
  have l30 : U5.cell? ⟨U3.heap.size, 2, none⟩ = some (.slice dsA dss.length dsc) := X9.2 2 _ rfl
  have l31 : U5.cell? ⟨U3.heap.size, 3, none⟩ = some (.slice dcA dcs.length dcc) := X9.2 3 _ rfl
  have l32 : U5.cell? ⟨U3.heap.size, 4, none⟩ = some (.slice dvA dvs.length dvc) := X9.2 4 _ rfl
  have l33 : U5.cell? ⟨U2.heap.size + 1 + 1 + 1 + 1 + 1 + 1 + 1 + 1 + 1 + 1, 0, none⟩ = some (.int .u64 0) := X8.2 0 _ rfl
  have l34 : U5.cell? ⟨U2.heap.size + 1 + 1 + 1 + 1 + 1 + 1 + 1 + 1 + 1 + 1, 1, none⟩ = some (.int .u64 0) := X8.2 1 _ rfl
  have l35 : U5.cell? ⟨U2.heap.size + 1 + 1 + 1 + 1 + 1 + 1 + 1 + 1 + 1 + 1, 2, none⟩ = some (.slice none 0 0) := X8.2 2 _ rfl
  have l36 : U5.cell? ⟨U2.heap.size + 1 + 1 + 1 + 1 + 1 + 1 + 1 + 1 + 1 + 1, 3, none⟩ = some (.slice (some ⟨U2.heap.size + 1 + 1 + 1 + 1 + 1 + 1 + 1 + 1, 0, none⟩) 1 1) := X8.2 3 _ rfl
  have l37 : U5.cell? ⟨U2.heap.size + 1 + 1 + 1 + 1 + 1 + 1 + 1 + 1 + 1 + 1, 4, none⟩ = some (.slice (some ⟨U2.heap.size + 1 + 1 + 1 + 1 + 1 + 1 + 1 + 1 + 1, 0, none⟩) 1 1) := X8.2 4 _ rfl
  go_wp2_with fail
  refine HS.out.mono ?_
  clear HS
  rintro e U6 ⟨rfl, bU6⟩
  clear l28 l29 l30 l31 l32 l33 l34 l35 l36 l37
  clear X9 X8 I9 I8
  replace X0 := X0.later bU6
  replace X11 := X11.later bU6
  replace I11 := I11.later bU6
  have BU6 : Below w.heap.size w U6 := BU5.trans (bU6.mono BU5.size)
  have HN := Lib.hid (V4.refNone_any (scLeaf 3) (Vl.mk gn gm gsA gsc gss gcA gcc gcs gvA gvc gvs) U6 (scLeaf_in _ _ _) I11)
  rw [HG.out, decide_eq_true (show Va.zero = botT (scLeaf 3).er from (V4.botT_zero (by rw [S2.er_k]; simp [scLeaf, S2.Sc.k])).symm)] at HN
  have l38 : U6.cell? ⟨w.heap.size, 0, none⟩ = some (.int .i64 3) := X0.2 0 _ rfl
  have l39 : U6.cell? ⟨w.heap.size, 1, none⟩ = some (.slice none 0 0) := X0.2 1 _ rfl
  have l40 : U6.cell? ⟨U4.heap.size, 0, none⟩ = some (.int .u64 gn) := X11.2 0 _ rfl
  have l41 : U6.cell? ⟨U4.heap.size, 1, none⟩ = some (.int .u64 gm) := X11.2 1 _ rfl
  have l42 : U6.cell? ⟨U4.heap.size, 2, none⟩ = some (.slice gsA gss.length gsc) := X11.2 2 _ rfl
  have l43 : U6.cell? ⟨U4.heap.size, 3, none⟩ = some (.slice gcA gcs.length gcc) := X11.2 3 _ rfl
  have l44 : U6.cell? ⟨U4.heap.size, 4, none⟩ = some (.slice gvA gvs.length gvc) := X11.2 4 _ rfl
  go_wp2_with fail
  refine HN.out.mono ?_
  rintro e U7 ⟨rfl, bU7⟩
  go_wp2_with fail
  go_ret
  exact ⟨by simp, BU6.trans (bU7.mono BU6.size)⟩

end Go.Proofs.YtleejffjnknohaaGreat.J5

namespace Go.Proofs.YtleejffjnknohaaGreat.J5
open Go.RowKit Go.Shelf

theorem u_bytes : Tryz.prog.underlying 45 = some (.slice 5) := by kernel_rfl
theorem u_byte : Tryz.prog.underlying 5 = some (.int .u8) := by kernel_rfl
theorem u_str : Tryz.prog.underlying 9 = some .string := by kernel_rfl
/-- A byte. -/
def byt (v : Int) : UInt8 := UInt8.ofNat v.toNat
theorem byt_nat {v : Int} (hv : 0 ≤ v ∧ v ≤ 255) : ((byt v).toNat : Int) = v := by
  unfold byt
  rw [UInt8.toNat_ofNat', Nat.mod_eq_of_lt (by omega)]
  omega
theorem byt_lt {u v : Int} (hu : 0 ≤ u ∧ u ≤ 255) (hv : 0 ≤ v ∧ v ≤ 255) : byt u < byt v ↔ u < v := by
  have h1 := byt_nat hu
  have h2 := byt_nat hv
  rw [UInt8.lt_iff_toNat_lt]
  omega
theorem conv_one (v : Int) (hv : 0 ≤ v ∧ v ≤ 255) (w : World) : (convert 45 9 (.slice (some ⟨w.heap.size, 0, none⟩) 1 1)).run Tryz.prog (w.alloc (.cells #[.int .u8 v] 5)) = .ok (.string (S [byt v])) (w.alloc (.cells #[.int .u8 v] 5)) :=
  run_convert_bytes_back (P := Tryz.prog) (w.alloc (.cells #[.int .u8 v] 5)) 45 9 5 ⟨w.heap.size, 0, none⟩ 1 [byt v] u_bytes u_byte u_str (fun i hi => by
    rw [Addr.add_lit, Nat.zero_add]
    have hi' : i < 1 := hi
    refine V4.alloc_cells i _ ?_
    obtain rfl : i = 0 := by omega
    simp
    exact (byt_nat hv).symm)
theorem conv_two (u v : Int) (hu : 0 ≤ u ∧ u ≤ 255) (hv : 0 ≤ v ∧ v ≤ 255) (w : World) : (convert 45 9 (.slice (some ⟨w.heap.size, 0, none⟩) 2 2)).run Tryz.prog (w.alloc (.cells #[.int .u8 u, .int .u8 v] 5)) = .ok (.string (S [byt u, byt v])) (w.alloc (.cells #[.int .u8 u, .int .u8 v] 5)) :=
  run_convert_bytes_back (P := Tryz.prog) (w.alloc (.cells #[.int .u8 u, .int .u8 v] 5)) 45 9 5 ⟨w.heap.size, 0, none⟩ 2 [byt u, byt v] u_bytes u_byte u_str (fun i hi => by
    rw [Addr.add_lit, Nat.zero_add]
    have hi' : i < 2 := hi
    refine V4.alloc_cells i _ ?_
    rcases (show i = 0 ∨ i = 1 by omega) with rfl | rfl
    · simp; exact (byt_nat hu).symm
    · simp; exact (byt_nat hv).symm)
end Go.Proofs.YtleejffjnknohaaGreat.J5
