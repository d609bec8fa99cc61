/- JoinSetsSaid is proved: at every input the law returns true, and each argument reads afterwards as it read before. No condition. What JoinSets does: it answers true. No condition but that what is handed in are numbers of their kinds. -/
import Derived.Test.YtleejffjnknohaaGreatMo25
import Derived.Test.YtleejffjnknohaaGreatMo24
import Derived.Deep.DeepCutAuto
import Derived.Sort.CutIn
import Derived.WalkKit
import Derived.ProofKit
import Derived.OpenShut
namespace Go.Proofs.YtleejffjnknohaaGreat.J5
open Go.RowKit Go.Shelf
open C3 (Tk belAl allocB)
open S2 (Sc Tr isT)
open V4 (Va Vl Ck isV botT Bxd val_mk er_mk scLeaf scLeaf_in mk_inj)

/-- What such a statement leaves: the outcome o as a value in a box of its own, and an error. -/
def VMidK (U : World) (o : Except Int Va) (s1 s2 : Value) (wx : World) : Prop :=
  ∃ (pb : Nat) (z : Vl), s1 = .pointer (some ⟨pb, 0, none⟩) ∧ U.heap.size ≤ pb ∧ V4.Bxd wx pb #[.int .u64 z.n, .int .u64 z.m, z.s1, z.c1, z.v1] ∧ z.In wx ∧ Below U.heap.size U wx ∧ ((o = .ok z.er ∧ s2 = .nilIface) ∨ (∃ n, o = .error n ∧ z = vlZ ∧ s2 = errV n))
theorem VMidK.ok {U : World} {o : Except Int Va} {v : Va} {s1 s2 : Value} {wx : World} (h : VMidK U o s1 s2 wx) (ho : o = .ok v) : ∃ (pb : Nat) (z : Vl), s1 = .pointer (some ⟨pb, 0, none⟩) ∧ s2 = .nilIface ∧ U.heap.size ≤ pb ∧ V4.Bxd wx pb #[.int .u64 z.n, .int .u64 z.m, z.s1, z.c1, z.v1] ∧ z.er = v ∧ z.In wx ∧ Below U.heap.size U wx := by
  obtain ⟨pb, z, h1, h2, h3, h4, h5, ⟨e, e2⟩ | ⟨n, e, _⟩⟩ := h
  · rw [ho] at e; exact ⟨pb, z, h1, e2, h2, h3, (Except.ok.inj e).symm, h4, h5⟩
  · rw [ho] at e; cases e
theorem VMidK.err {U : World} {o : Except Int Va} {n : Int} {s1 s2 : Value} {wx : World} (h : VMidK U o s1 s2 wx) (ho : o = .error n) : ∃ (pb : Nat), s1 = .pointer (some ⟨pb, 0, none⟩) ∧ s2 = errV n ∧ U.heap.size ≤ pb ∧ V4.Bxd wx pb #[.int .u64 0, .int .u64 0, .slice none 0 0, .slice none 0 0, .slice none 0 0] ∧ Below U.heap.size U wx := by
  obtain ⟨pb, z, h1, h2, h3, h4, h5, ⟨e, _⟩ | ⟨k, e, rfl, e2⟩⟩ := h
  · rw [ho] at e; cases e
  · rw [ho] at e; cases e; exact ⟨pb, h1, e2, h2, h3, h5⟩
theorem blk_bxd {W : World} {b : Nat} {t : TypeId} {cs : Array Value} (h : Blk W b t cs) : V4.Bxd W b cs := ⟨h.lt, fun i v hv => blk_cell h i v hv⟩
theorem vmidk_mk {U T : World} {o : Except Int Va} {pb : Nat} {z : Vl} {ev z0 z1 z2 z3 z4 : Value} (hq : Blk T pb 32 #[z0, z1, z2, z3, z4]) (hpb : U.heap.size ≤ pb) (hz : z.Inp (fun b => b < T.heap.size ∧ b ≠ pb) T) (he : (o = .ok z.er ∧ ev = .nilIface) ∨ (∃ n, o = .error n ∧ z = vlZ ∧ ev = errV n)) (hb : Below U.heap.size U T) :
    VMidK U o (.pointer (some ⟨pb, 0, none⟩)) ev (set5 T pb (.int .u64 z.n) (.int .u64 z.m) z.s1 z.c1 z.v1) :=
  ⟨pb, z, rfl, hpb, blk_bxd (set5_blk hq), (hz.keep fun _ hP => set5_low hP.2).mono fun _ hP => Nat.lt_of_lt_of_le hP.1 (Nat.le_of_eq set5_size.symm), set5_bel hb hpb, he⟩

set_option maxRecDepth 100000 in
set_option maxHeartbeats 8000000 in
theorem joinSets_all (n m : Int) (hn : 0 ≤ n ∧ n ≤ 255) (hm : 0 ≤ m ∧ m ≤ 255) (w : World) : Calls Tryz.prog 5 #[.int .u8 n, .int .u8 m] w (RetV w (.bool true)) := by
  obtain ⟨k, ek⟩ : ∃ q, n.tmod 45 = q := ⟨_, rfl⟩
  have hk : 0 ≤ k ∧ k ≤ 44 := by rw [← ek, Int.tmod_eq_emod_of_nonneg hn.1]; omega
  obtain ⟨j, ej⟩ : ∃ q, m.tmod 45 = q := ⟨_, rfl⟩
  have hj : 0 ≤ j ∧ j ≤ 44 := by rw [← ej, Int.tmod_eq_emod_of_nonneg hm.1]; omega
  go_enter Tryz.func5, Tryz.ntmps5
  go_wp2_with fail
  refine (known_any w).mono ?_
  rintro e W0 ⟨rfl, bW0⟩
  go_wp2_with fail
  go_loopw [9] (fun iv wr => ∃ (i : Nat), i ≤ 60 ∧ iv = .int .i64 i ∧ Hid (JR W0 i i wr)) (fun iv _ => 60 - (intOf iv).toNat)
  case atStart => exact ⟨0, by omega, rfl, .slice none 0 0, .slice none 0 0, [], [], ⟨(Blk.new W0 _ _).below (allocB _ _), by have := Blk.new (W0.alloc (.cells #[.int .u64 0, .int .u64 0, .slice none 0 0, .slice none 0 0, .slice none 0 0] 32)) 32 #[.int .u64 0, .int .u64 0, .slice none 0 0, .slice none 0 0, .slice none 0 0]; rw [World.size_alloc] at this; exact this, R1.Own.nil _ _, R1.Own.nil _ _, (fun _ h => by cases h), belAl (belAl (Below.refl _ _))⟩, TS.nil, TS.nil⟩
  case round =>
    obtain ⟨i, hi, rfl, va, vb, xs, ys, HS, HX, HY⟩ := hrel
    by_cases hlt : i < 60
    · have hcv := conv_two (97 + (i : Int) / 26) (97 + (i : Int) % 26) (by omega) (by omega) wr
      go_upto_region 9 with fail
      clear hcv
      obtain ⟨V, hV⟩ : ∃ V, wr.alloc (.cells #[.int .u8 (97 + (i : Int) / 26), .int .u8 (97 + (i : Int) % 26)] 5) = V := ⟨_, rfl⟩
      rw [hV]
      replace HS := HS.later (show Below wr.heap.size wr V by rw [← hV]; exact allocB _ _)
      clear hV
      have HR : Hid (JR W0 i i V) := ⟨va, vb, xs, ys, HS, HX, HY⟩
      clear HS HX HY
      have e10 : S [byt (97 + (i : Int) / 26), byt (97 + (i : Int) % 26)] = S (tn i) := rfl
      rw [e10]
      clear e10
      obtain ⟨va, vb, xs, ys, HS, HX, HY⟩ := HR
      obtain ⟨Aa, ca, rfl, -, -, -⟩ := HS.oa.form
      have hq := HS.qa
      have c2 : V.cell? ⟨W0.heap.size, 2, none⟩ = some (.slice Aa xs.length ca) := blk_cell hq 2 _ rfl
      go_cut [46] from 24 to 46 (fun sq wx => ∃ q : Bool, sq = .bool q ∧ wx = V ∧ Hid (q = true → xs.length < 40))
      case first =>
        by_cases h1 : (i : Int) < k
        · have g1 : decide ((i : Int) < k) = true := decide_eq_true h1
          by_cases h2 : ((xs.length : Nat) : Int) < 40
          · have g2 : decide (((xs.length : Nat) : Int) < 40) = true := decide_eq_true h2
            have h3 : Hid (xs.length < 40) := by show _ < _; omega
            clear h1 h2
            go_wp2_with fail
            go_meet
            exact ⟨true, rfl, rfl, fun _ => h3.out⟩
          · have g2 : decide (((xs.length : Nat) : Int) < 40) = false := decide_eq_false h2
            clear h1 h2
            go_wp2_with fail
            go_meet
            exact ⟨false, rfl, rfl, fun h => by cases h⟩
        · have g1 : decide ((i : Int) < k) = false := decide_eq_false h1
          clear h1
          go_wp2_with fail
          go_meet
          exact ⟨false, rfl, rfl, fun h => by cases h⟩
      obtain ⟨q, rfl, rfl, hq40⟩ := hcut
      go_upto_if 46 with fail
      go_cut [] from 46 to 52 (fun wx => Hid (JR W0 (i + 1) i wx))
      case first =>
        cases q with
        | true =>
          have h40 := hq40.out rfl
          have HSH := Lib.hid HS
          have HXH := Lib.hid (And.intro HX HY)
          have hlt2 := hq.lt
          clear HS HX HY hq40
          go_wp2_with (at_builtin
                       refine R1.wpList_app _ rfl (.tmp 48) (.tmp 50) _ rfl (W0.heap.size + 2) Tryz.underlying29 _ xs rfl (HSH.out.oa.alloc _) (some ⟨wc.heap.size, 0, none⟩) 1 1 [tn i] rfl rfl ?ql ?qn ?qb ?_
                       case ql => exact .inr ⟨wc.heap.size, 0, rfl, by simp, fun i x hx => by (have := (List.getElem?_eq_some_iff.1 hx).1; simp at this; subst this; simp at hx; subst hx; simp)⟩
                       case qn => (simp; omega)
                       case qb => (have := HSH.out.bel.size; have := HSH.out.qb.lt; simp; omega)
                       intro v2 w2 hown2 hg2 hat2
                       have HA := HSH.out.later (allocB wc (.cells #[.string (S (tn i))] 9))
                       have hx2 := hq.below (allocB wc (.cells #[.string (S (tn i))] 9))
                       have low : some (W0.heap.size) ≠ (Value.slice Aa xs.length ca).ownBlock := fun e => by have := (HSH.out.oa.lt e.symm).1; omega
                       replace hx2 := hx2.grown hg2 low
                       have f2' := blk_frozen hx2 2
                       have x2' : w2.cell? ⟨W0.heap.size, 2, none⟩ = some (.slice Aa xs.length ca) := blk_cell hx2 2 _ rfl
                       have HF := Lib.hid (HA.appA hown2 hg2 hat2)
                       obtain ⟨A2, c3, hv2, -⟩ := hown2.form
                       generalize (xs ++ [tn i]).length = n2 at hv2
                       subst hv2
                       clear HA hx2 low hown2 hg2 hat2)
          go_meet
          exact ⟨_, _, _, _, HF.out, HXH.out.1.app hlt h40, HXH.out.2⟩
        | false =>
          go_wp2_with fail
          go_meet
          exact ⟨_, _, _, _, HS, HX.step hlt, HY⟩
      have HR := hcut
      clear hcut hq40 HS HX HY hq c2
      obtain ⟨V, hV⟩ : ∃ V, wc = V := ⟨_, rfl⟩
      rw [hV] at HR
      rw [hV]
      clear hV
      go_upto_region 11 with fail
      obtain ⟨va, vb, xs, ys, HS, HX, HY⟩ := HR
      obtain ⟨Ab, cb, rfl, -, -, -⟩ := HS.ob.form
      have hq := HS.qb
      have c2 : V.cell? ⟨W0.heap.size + 1, 2, none⟩ = some (.slice Ab ys.length cb) := blk_cell hq 2 _ rfl
      go_cut [62] from 24 to 62 (fun sq wx => ∃ q : Bool, sq = .bool q ∧ wx = V ∧ Hid (q = true → ys.length < 40))
      case first =>
        by_cases h1 : 60 - j ≤ (i : Int)
        · have g1 : decide (60 - j ≤ (i : Int)) = true := decide_eq_true h1
          by_cases h2 : ((ys.length : Nat) : Int) < 40
          · have g2 : decide (((ys.length : Nat) : Int) < 40) = true := decide_eq_true h2
            have h3 : Hid (ys.length < 40) := by show _ < _; omega
            clear h1 h2
            go_wp2_with fail
            go_meet
            exact ⟨true, rfl, rfl, fun _ => h3.out⟩
          · have g2 : decide (((ys.length : Nat) : Int) < 40) = false := decide_eq_false h2
            clear h1 h2
            go_wp2_with fail
            go_meet
            exact ⟨false, rfl, rfl, fun h => by cases h⟩
        · have g1 : decide (60 - j ≤ (i : Int)) = false := decide_eq_false h1
          clear h1
          go_wp2_with fail
          go_meet
          exact ⟨false, rfl, rfl, fun h => by cases h⟩
      obtain ⟨q, rfl, rfl, hq40⟩ := hcut
      go_upto_if 62 with fail
      cases q with
      | true =>
        have h40 := hq40.out rfl
        have HSH := Lib.hid HS
        have HXH := Lib.hid (And.intro HX HY)
        have hlt2 := hq.lt
        clear HS HX HY hq40
        go_wp2_with (at_builtin
                     refine R1.wpList_app _ rfl (.tmp 64) (.tmp 66) _ rfl (W0.heap.size + 2) Tryz.underlying29 _ ys rfl (HSH.out.ob.alloc _) (some ⟨wc.heap.size, 0, none⟩) 1 1 [tn i] rfl rfl ?ql ?qn ?qb ?_
                     case ql => exact .inr ⟨wc.heap.size, 0, rfl, by simp, fun i x hx => by (have := (List.getElem?_eq_some_iff.1 hx).1; simp at this; subst this; simp at hx; subst hx; simp)⟩
                     case qn => (simp; omega)
                     case qb => (have := HSH.out.bel.size; have := HSH.out.qb.lt; simp; omega)
                     intro v2 w2 hown2 hg2 hat2
                     have HA := HSH.out.later (allocB wc (.cells #[.string (S (tn i))] 9))
                     have hx2 := hq.below (allocB wc (.cells #[.string (S (tn i))] 9))
                     have low : some (W0.heap.size + 1) ≠ (Value.slice Ab ys.length cb).ownBlock := fun e => by have := (HSH.out.ob.lt e.symm).1; omega
                     replace hx2 := hx2.grown hg2 low
                     have f2' := blk_frozen hx2 2
                     have x2' : w2.cell? ⟨W0.heap.size + 1, 2, none⟩ = some (.slice Ab ys.length cb) := blk_cell hx2 2 _ rfl
                     have HF := Lib.hid (HA.appB hown2 hg2 hat2)
                     obtain ⟨A2, c3, hv2, -⟩ := hown2.form
                     generalize (ys ++ [tn i]).length = n2 at hv2
                     subst hv2
                     clear HA hx2 low hown2 hg2 hat2)
        go_roundw
        case rel => exact ⟨i + 1, by omega, by go_num, ⟨_, _, _, _, HF.out, HXH.out.1, HXH.out.2.app hlt h40⟩⟩
        case measure => simp [intOf]; omega
      | false =>
        go_wp2_with fail
        go_roundw
        case rel => exact ⟨i + 1, by omega, by go_num, ⟨_, _, _, _, HS, HX, HY.step hlt⟩⟩
        case measure => simp [intOf]; omega
    · have h60 : i = 60 := by omega
      subst h60
      obtain ⟨Aa, ca, rfl, ha1, ha2, hla⟩ := HS.oa.form
      obtain ⟨Ab, cb, rfl, hb1, hb2, hlb⟩ := HS.ob.form
      have ha : xs.length ≤ 40 := HX.len
      have hb : ys.length ≤ 40 := HY.len
      have IX := vlT_in hla ha1 ha2 (by omega) (fun s hs => by rw [HX.sh s hs]; decide)
      have IY := vlT_in hlb hb1 hb2 (by omega) (fun s hs => by rw [HY.sh s hs]; decide)
      have Xa := blk_bxd HS.qa
      have Xb := blk_bxd HS.qb
      have B0 : Below w.heap.size w wr := bW0.trans (HS.bel.mono bW0.size)
      obtain ⟨all, hall⟩ : ∃ all, R1.bothL xs ys = all := ⟨_, rfl⟩
      have HB := Lib.hid (fun W (h1 : Lies W Aa xs) (h2 : Lies W Ab ys) => R1.refBoth_any Aa Ab ca cb xs ys W h1 h2 (by omega) (by omega))
      rw [hall] at HB
      have K1 : Hid (joinF (.mk 3 []) (.mk 0 0 xs [] []) (.mk 0 0 ys [] []) = if 40 < all.length then .error 13 else .ok (.mk 0 0 all [] [])) := by
        show joinF _ _ _ = _
        rw [← hall]
        split
        · exact js_large HX HY (by assumption)
        · exact js_fits HX HY (by assumption)
      have HLA := Lib.hid hla
      have HLB := Lib.hid hlb
      have hall80 : all.length ≤ 80 := by rw [← hall]; have := R1.bothL_len xs ys; omega
      clear hall HS HX HY hla hlb
      have l0 : wr.cell? ⟨W0.heap.size, 2, none⟩ = some (.slice Aa xs.length ca) := Xa.2 2 _ rfl
      have l1 : wr.cell? ⟨W0.heap.size + 1, 2, none⟩ = some (.slice Ab ys.length cb) := Xb.2 2 _ rfl
      go_wp2_with fail
      refine (HB.out _ HLA.out HLB.out).mono ?_
      rintro e W1 ⟨A3, c3, rfl, h31, h32, hl3, bW1⟩
      clear l0 l1 HLA HLB HB
      replace Xa := Xa.later bW1
      replace Xb := Xb.later bW1
      replace IX := IX.later bW1
      replace IY := IY.later bW1
      replace B0 := B0.trans (bW1.mono B0.size)
      have HL3 := Lib.hid hl3
      clear hl3 bW1
      go_upto_region 14 with fail
      obtain ⟨o, ho⟩ : ∃ o, joinF (.mk 3 []) (.mk 0 0 xs [] []) (.mk 0 0 ys [] []) = o := ⟨_, rfl⟩
      replace K1 : Hid (o = if 40 < all.length then .error 13 else .ok (.mk 0 0 all [] [])) := by show o = _; rw [← ho]; exact K1.out
      have HJ : Hid (∀ W, (vlT Aa ca xs).In W → (vlT Ab cb ys).In W → Calls Tryz.prog 15 #[(scLeaf 3).val, (vlT Aa ca xs).val, (vlT Ab cb ys).val] W (RetK W o)) := fun W h1 h2 => by rw [← ho]; exact Join_any False False.elim (scLeaf 3) (vlT Aa ca xs) (vlT Ab cb ys) W (scLeaf_in _ _ _) h1 h2 (fun _ => .inr (noP_leaf (by decide)))
      clear ho
      go_cut [12, 13] (fun s1 s2 wx => Hid (VMidK W1 o s1 s2 wx))
      case first =>
        have HXI := Lib.hid (And.intro IX IY)
        have HK : Hid (∀ W, Below W1.heap.size W1 W → (fun w' => w'.cell? ⟨W0.heap.size, 0, none⟩ = some (.int .u64 0) ∧ w'.cell? ⟨W0.heap.size, 1, none⟩ = some (.int .u64 0) ∧ w'.cell? ⟨W0.heap.size, 2, none⟩ = some (.slice Aa xs.length ca) ∧ w'.cell? ⟨W0.heap.size, 3, none⟩ = some (.slice none 0 0) ∧ w'.cell? ⟨W0.heap.size, 4, none⟩ = some (.slice none 0 0) ∧ w'.cell? ⟨W0.heap.size + 1, 0, none⟩ = some (.int .u64 0) ∧ w'.cell? ⟨W0.heap.size + 1, 1, none⟩ = some (.int .u64 0) ∧ w'.cell? ⟨W0.heap.size + 1, 2, none⟩ = some (.slice Ab ys.length cb) ∧ w'.cell? ⟨W0.heap.size + 1, 3, none⟩ = some (.slice none 0 0) ∧ w'.cell? ⟨W0.heap.size + 1, 4, none⟩ = some (.slice none 0 0)) W) := fun W hW => ⟨(hW.cell (p := ⟨W0.heap.size, 0, none⟩) Xa.1).trans (Xa.2 0 _ rfl), (hW.cell (p := ⟨W0.heap.size, 1, none⟩) Xa.1).trans (Xa.2 1 _ rfl), (hW.cell (p := ⟨W0.heap.size, 2, none⟩) Xa.1).trans (Xa.2 2 _ rfl), (hW.cell (p := ⟨W0.heap.size, 3, none⟩) Xa.1).trans (Xa.2 3 _ rfl), (hW.cell (p := ⟨W0.heap.size, 4, none⟩) Xa.1).trans (Xa.2 4 _ rfl), (hW.cell (p := ⟨W0.heap.size + 1, 0, none⟩) Xb.1).trans (Xb.2 0 _ rfl), (hW.cell (p := ⟨W0.heap.size + 1, 1, none⟩) Xb.1).trans (Xb.2 1 _ rfl), (hW.cell (p := ⟨W0.heap.size + 1, 2, none⟩) Xb.1).trans (Xb.2 2 _ rfl), (hW.cell (p := ⟨W0.heap.size + 1, 3, none⟩) Xb.1).trans (Xb.2 3 _ rfl), (hW.cell (p := ⟨W0.heap.size + 1, 4, none⟩) Xb.1).trans (Xb.2 4 _ rfl)⟩
        refine wp_region_noPanic ?_
        refine wp_region_held_drew (S := (fun w' => w'.cell? ⟨W0.heap.size, 0, none⟩ = some (.int .u64 0) ∧ w'.cell? ⟨W0.heap.size, 1, none⟩ = some (.int .u64 0) ∧ w'.cell? ⟨W0.heap.size, 2, none⟩ = some (.slice Aa xs.length ca) ∧ w'.cell? ⟨W0.heap.size, 3, none⟩ = some (.slice none 0 0) ∧ w'.cell? ⟨W0.heap.size, 4, none⟩ = some (.slice none 0 0) ∧ w'.cell? ⟨W0.heap.size + 1, 0, none⟩ = some (.int .u64 0) ∧ w'.cell? ⟨W0.heap.size + 1, 1, none⟩ = some (.int .u64 0) ∧ w'.cell? ⟨W0.heap.size + 1, 2, none⟩ = some (.slice Ab ys.length cb) ∧ w'.cell? ⟨W0.heap.size + 1, 3, none⟩ = some (.slice none 0 0) ∧ w'.cell? ⟨W0.heap.size + 1, 4, none⟩ = some (.slice none 0 0))) (by kernel_rfl) ?_ (fun hHeld => ?_)
        · exact HK.out _ (Below.refl _ _).drew
        obtain ⟨D, hD⟩ : ∃ D, W1.drew = D := ⟨_, rfl⟩
        rw [hD] at hHeld ⊢
        have HB : Hid (Below W1.heap.size W1 D) := by rw [← hD]; exact (Below.refl _ _).drew
        clear hD
        refine V4.takeH 1 76 (v := ?t1_v) rfl rfl (by kernel_rfl) (by kernel_rfl) (by kernel_rfl) (fun _ _ _ h => h) (Or.inl ⟨by rfl, ?t1_h⟩) (by assumption) ?t1_r
        case t1_h => (intro w hSw; (try dsimp only at hSw); go_simp; try (with_reducible rfl))
        simp only [List.set_cons_zero, List.set_cons_succ]
        refine V4.takeH 2 77 (v := ?t2_v) rfl rfl (by kernel_rfl) (by kernel_rfl) (by kernel_rfl) (fun _ _ _ h => h) (Or.inl ⟨by rfl, ?t2_h⟩) (by assumption) ?t2_r
        case t2_h => (intro w hSw; (try dsimp only at hSw); go_simp; try (with_reducible rfl))
        simp only [List.set_cons_zero, List.set_cons_succ]
        refine wpAnyH_ready (rs := [0, 7]) (by kernel_rfl) (by simp) ?_
        refine AllReadyH.cons rfl (fun K hK => ?n3_a) (AllReadyH.cons rfl (fun K hK => ?n3_b) AllReadyH.nil)
        case n3_a =>
          go_simp
          go_wp2_with (go_at_call 16; refine (of_any 3 none 0 0 _).mono ?_; rintro e Da ⟨rfl, hbn⟩)
          replace HB : Hid (Below W1.heap.size W1 Da) := HB.out.trans (hbn.mono HB.out.size)
          clear hbn
          refine hK.out _ _ ?_ (fun hHeld => ?_)
          · exact HK.out _ HB.out
          clear hK K
          refine wpAnyH_ready (rs := [3, 7]) (by kernel_rfl) (by simp) ?_
          refine AllReadyH.cons rfl (fun K hK => ?n4_a) (AllReadyH.cons rfl (fun K hK => ?n4_b) AllReadyH.nil)
          case n4_a =>
            go_simp
            go_wp2_with (go_at_call 15; refine (HJ.out _ (HXI.out.1.later HB.out) (HXI.out.2.later HB.out)).mono ?_; rintro e Dab hr; (obtain ⟨⟨zn, zm, zsA, zsc, zss, zcA, zcc, zcs, zvA, zvc, zvs⟩, ev, rfl, hzi, hbn, hze⟩ := retK_case hr; have HZE := Lib.hid hze; simp only [val_mk]; clear hr hze))
            replace HB : Hid (Below W1.heap.size W1 Dab) := HB.out.trans (hbn.mono HB.out.size)
            clear hbn
            refine hK.out _ _ ?_ (fun hHeld => ?_)
            · exact HK.out _ HB.out
            clear hK K
            refine V4.takeH 4 74 (v := ?t5_v) rfl rfl (by kernel_rfl) (by kernel_rfl) (by kernel_rfl) (fun _ _ _ h => h) (Or.inl ⟨by rfl, ?t5_h⟩) (by assumption) ?t5_r
            case t5_h => (intro w hSw; (try dsimp only at hSw); go_simp; try (with_reducible rfl))
            simp only [List.set_cons_zero, List.set_cons_succ]
            refine V4.takeH 5 79 (v := ?t6_v) rfl rfl (by kernel_rfl) (by kernel_rfl) (by kernel_rfl) (fun _ _ _ h => h) (Or.inl ⟨by rfl, ?t6_h⟩) (by assumption) ?t6_r
            case t6_h => (intro w hSw; (try dsimp only at hSw); go_simp; try (with_reducible rfl))
            simp only [List.set_cons_zero, List.set_cons_succ]
            refine V4.takeH 6 80 (v := ?t7_v) rfl rfl (by kernel_rfl) (by kernel_rfl) (by kernel_rfl) (fun _ _ _ h => h) (Or.inl ⟨by rfl, ?t7_h⟩) (by assumption) ?t7_r
            case t7_h => (intro w hSw; (try dsimp only at hSw); go_simp; try (with_reducible rfl))
            simp only [List.set_cons_zero, List.set_cons_succ]
            refine wpAnyH_ready (rs := [7]) (by kernel_rfl) (by simp) ?_
            refine AllReadyH.cons rfl (fun K hK => ?_) AllReadyH.nil
            go_simp
            obtain ⟨Dabp, hDabp⟩ : ∃ Dabp, Dab.alloc (.cells #[.int .u64 0, .int .u64 0, .slice none 0 0, .slice none 0 0, .slice none 0 0] 32) = Dabp := ⟨_, rfl⟩
            rw [hDabp]
            have hbn : Below Dab.heap.size Dab Dabp := by rw [← hDabp]; exact allocB _ _
            have HPB : Hid (Blk Dabp Dab.heap.size 32 #[.int .u64 0, .int .u64 0, .slice none 0 0, .slice none 0 0, .slice none 0 0]) := by rw [← hDabp]; exact Blk.new _ _ _
            have hpb : W1.heap.size ≤ Dab.heap.size := HB.out.size
            replace HB : Hid (Below W1.heap.size W1 Dabp) := HB.out.trans (hbn.mono HB.out.size)
            refine hK.out _ _ ?_ (fun hHeld => ?_)
            · exact HK.out _ HB.out
            clear hK K
            have HZI : Hid ((Vl.mk zn zm zsA zsc zss zcA zcc zcs zvA zvc zvs).Inp (fun b => b < Dabp.heap.size ∧ b ≠ Dab.heap.size) Dabp) := (hzi.keep fun b hP => hbn.block b hP.2).mono fun b hP => ⟨Nat.lt_of_lt_of_le hP.2 hbn.size, Nat.ne_of_lt hP.2⟩
            have qp := HPB.out
            have d0 : Dabp.cell? ⟨Dab.heap.size, 0, none⟩ = some (.int .u64 0) := blk_cell qp 0 _ rfl
            have d1 : Dabp.cell? ⟨Dab.heap.size, 1, none⟩ = some (.int .u64 0) := blk_cell qp 1 _ rfl
            have d2 : Dabp.cell? ⟨Dab.heap.size, 2, none⟩ = some (.slice none 0 0) := blk_cell qp 2 _ rfl
            have d3 : Dabp.cell? ⟨Dab.heap.size, 3, none⟩ = some (.slice none 0 0) := blk_cell qp 3 _ rfl
            have d4 : Dabp.cell? ⟨Dab.heap.size, 4, none⟩ = some (.slice none 0 0) := blk_cell qp 4 _ rfl
            have f0 := blk_frozen qp 0
            have f1 := blk_frozen qp 1
            have f2 := blk_frozen qp 2
            have f3 := blk_frozen qp 3
            have f4 := blk_frozen qp 4
            refine wpAnyH_ready (rs := [8]) (by kernel_rfl) (by simp) ?_
            refine AllReadyH.cons rfl (fun K hK => ?_) AllReadyH.nil
            go_simp
            obtain ⟨Y, hY⟩ : ∃ Y, set5 Dabp (Dab.heap.size) (.int .u64 zn) (.int .u64 zm) (.slice zsA zss.length zsc) (.slice zcA zcs.length zcc) (.slice zvA zvs.length zvc) = Y := ⟨_, rfl⟩
            change K _ (set5 Dabp (Dab.heap.size) (.int .u64 zn) (.int .u64 zm) (.slice zsA zss.length zsc) (.slice zcA zcs.length zcc) (.slice zvA zvs.length zvc))
            rw [hY]
            have HMID : Hid (VMidK W1 o (.pointer (some ⟨Dab.heap.size, 0, none⟩)) ev Y) := by rw [← hY]; exact vmidk_mk (z := .mk zn zm zsA zsc zss zcA zcc zcs zvA zvc zvs) qp hpb HZI.out HZE.out HB.out
            replace HB : Hid (Below W1.heap.size W1 Y) := by rw [← hY]; exact set5_bel HB.out hpb
            refine hK.out _ _ ?_ (fun hHeld => ?_)
            · exact HK.out _ HB.out
            clear hK K
            refine V4.takeH 9 13 (v := ?t8_v) rfl rfl (by kernel_rfl) (by kernel_rfl) (by kernel_rfl) (fun _ _ _ h => h) (Or.inl ⟨by rfl, ?t8_h⟩) (by assumption) ?t8_r
            case t8_h => (intro w hSw; (try dsimp only at hSw); go_simp; try (with_reducible rfl))
            simp only [List.set_cons_zero, List.set_cons_succ]
            refine wpAnyH_done (by kernel_rfl) ?_ _
            refine NoPanic.normal ?_
            go_wp2_with fail
            go_meet
            exact HMID
          case n4_b =>
            go_simp
            obtain ⟨Dap, hDap⟩ : ∃ Dap, Da.alloc (.cells #[.int .u64 0, .int .u64 0, .slice none 0 0, .slice none 0 0, .slice none 0 0] 32) = Dap := ⟨_, rfl⟩
            rw [hDap]
            have hbn : Below Da.heap.size Da Dap := by rw [← hDap]; exact allocB _ _
            have HPB : Hid (Blk Dap Da.heap.size 32 #[.int .u64 0, .int .u64 0, .slice none 0 0, .slice none 0 0, .slice none 0 0]) := by rw [← hDap]; exact Blk.new _ _ _
            have hpb : W1.heap.size ≤ Da.heap.size := HB.out.size
            replace HB : Hid (Below W1.heap.size W1 Dap) := HB.out.trans (hbn.mono HB.out.size)
            clear hbn
            refine hK.out _ _ ?_ (fun hHeld => ?_)
            · exact HK.out _ HB.out
            clear hK K
            refine wpAnyH_ready (rs := [3]) (by kernel_rfl) (by simp) ?_
            refine AllReadyH.cons rfl (fun K hK => ?_) AllReadyH.nil
            go_simp
            have HLT : Hid (Da.heap.size < Dap.heap.size) := HPB.out.lt
            go_wp2_with (go_at_call 15; refine (HJ.out _ (HXI.out.1.later HB.out) (HXI.out.2.later HB.out)).mono ?_; rintro e Dapb hr; (obtain ⟨⟨zn, zm, zsA, zsc, zss, zcA, zcc, zcs, zvA, zvc, zvs⟩, ev, rfl, hzi, hbn, hze⟩ := retK_case hr; have HZE := Lib.hid hze; simp only [val_mk]; clear hr hze))
            replace HPB := Lib.hid (HPB.out.below hbn)
            have HZI : Hid ((Vl.mk zn zm zsA zsc zss zcA zcc zcs zvA zvc zvs).Inp (fun b => b < Dapb.heap.size ∧ b ≠ Da.heap.size) Dapb) := hzi.mono fun b hP => ⟨hP.2, fun e => by have := hP.1; have := HLT.out; omega⟩
            replace HB : Hid (Below W1.heap.size W1 Dapb) := HB.out.trans (hbn.mono HB.out.size)
            clear hbn
            refine hK.out _ _ ?_ (fun hHeld => ?_)
            · exact HK.out _ HB.out
            clear hK K
            refine V4.takeH 4 74 (v := ?t9_v) rfl rfl (by kernel_rfl) (by kernel_rfl) (by kernel_rfl) (fun _ _ _ h => h) (Or.inl ⟨by rfl, ?t9_h⟩) (by assumption) ?t9_r
            case t9_h => (intro w hSw; (try dsimp only at hSw); go_simp; try (with_reducible rfl))
            simp only [List.set_cons_zero, List.set_cons_succ]
            refine V4.takeH 5 79 (v := ?t10_v) rfl rfl (by kernel_rfl) (by kernel_rfl) (by kernel_rfl) (fun _ _ _ h => h) (Or.inl ⟨by rfl, ?t10_h⟩) (by assumption) ?t10_r
            case t10_h => (intro w hSw; (try dsimp only at hSw); go_simp; try (with_reducible rfl))
            simp only [List.set_cons_zero, List.set_cons_succ]
            refine V4.takeH 6 80 (v := ?t11_v) rfl rfl (by kernel_rfl) (by kernel_rfl) (by kernel_rfl) (fun _ _ _ h => h) (Or.inl ⟨by rfl, ?t11_h⟩) (by assumption) ?t11_r
            case t11_h => (intro w hSw; (try dsimp only at hSw); go_simp; try (with_reducible rfl))
            simp only [List.set_cons_zero, List.set_cons_succ]
            have qp := HPB.out
            have d0 : Dapb.cell? ⟨Da.heap.size, 0, none⟩ = some (.int .u64 0) := blk_cell qp 0 _ rfl
            have d1 : Dapb.cell? ⟨Da.heap.size, 1, none⟩ = some (.int .u64 0) := blk_cell qp 1 _ rfl
            have d2 : Dapb.cell? ⟨Da.heap.size, 2, none⟩ = some (.slice none 0 0) := blk_cell qp 2 _ rfl
            have d3 : Dapb.cell? ⟨Da.heap.size, 3, none⟩ = some (.slice none 0 0) := blk_cell qp 3 _ rfl
            have d4 : Dapb.cell? ⟨Da.heap.size, 4, none⟩ = some (.slice none 0 0) := blk_cell qp 4 _ rfl
            have f0 := blk_frozen qp 0
            have f1 := blk_frozen qp 1
            have f2 := blk_frozen qp 2
            have f3 := blk_frozen qp 3
            have f4 := blk_frozen qp 4
            refine wpAnyH_ready (rs := [8]) (by kernel_rfl) (by simp) ?_
            refine AllReadyH.cons rfl (fun K hK => ?_) AllReadyH.nil
            go_simp
            obtain ⟨Y, hY⟩ : ∃ Y, set5 Dapb (Da.heap.size) (.int .u64 zn) (.int .u64 zm) (.slice zsA zss.length zsc) (.slice zcA zcs.length zcc) (.slice zvA zvs.length zvc) = Y := ⟨_, rfl⟩
            change K _ (set5 Dapb (Da.heap.size) (.int .u64 zn) (.int .u64 zm) (.slice zsA zss.length zsc) (.slice zcA zcs.length zcc) (.slice zvA zvs.length zvc))
            rw [hY]
            have HMID : Hid (VMidK W1 o (.pointer (some ⟨Da.heap.size, 0, none⟩)) ev Y) := by rw [← hY]; exact vmidk_mk (z := .mk zn zm zsA zsc zss zcA zcc zcs zvA zvc zvs) qp hpb HZI.out HZE.out HB.out
            replace HB : Hid (Below W1.heap.size W1 Y) := by rw [← hY]; exact set5_bel HB.out hpb
            refine hK.out _ _ ?_ (fun hHeld => ?_)
            · exact HK.out _ HB.out
            clear hK K
            refine V4.takeH 9 13 (v := ?t12_v) rfl rfl (by kernel_rfl) (by kernel_rfl) (by kernel_rfl) (fun _ _ _ h => h) (Or.inl ⟨by rfl, ?t12_h⟩) (by assumption) ?t12_r
            case t12_h => (intro w hSw; (try dsimp only at hSw); go_simp; try (with_reducible rfl))
            simp only [List.set_cons_zero, List.set_cons_succ]
            refine wpAnyH_done (by kernel_rfl) ?_ _
            refine NoPanic.normal ?_
            go_wp2_with fail
            go_meet
            exact HMID
        case n3_b =>
          go_simp
          obtain ⟨Dp, hDp⟩ : ∃ Dp, D.alloc (.cells #[.int .u64 0, .int .u64 0, .slice none 0 0, .slice none 0 0, .slice none 0 0] 32) = Dp := ⟨_, rfl⟩
          rw [hDp]
          have hbn : Below D.heap.size D Dp := by rw [← hDp]; exact allocB _ _
          have HPB : Hid (Blk Dp D.heap.size 32 #[.int .u64 0, .int .u64 0, .slice none 0 0, .slice none 0 0, .slice none 0 0]) := by rw [← hDp]; exact Blk.new _ _ _
          have hpb : W1.heap.size ≤ D.heap.size := HB.out.size
          replace HB : Hid (Below W1.heap.size W1 Dp) := HB.out.trans (hbn.mono HB.out.size)
          clear hbn
          refine hK.out _ _ ?_ (fun hHeld => ?_)
          · exact HK.out _ HB.out
          clear hK K
          refine wpAnyH_ready (rs := [0]) (by kernel_rfl) (by simp) ?_
          refine AllReadyH.cons rfl (fun K hK => ?_) AllReadyH.nil
          go_simp
          go_wp2_with (go_at_call 16; refine (of_any 3 none 0 0 _).mono ?_; rintro e Dpa ⟨rfl, hbn⟩)
          replace HPB := Lib.hid (HPB.out.below hbn)
          replace HB : Hid (Below W1.heap.size W1 Dpa) := HB.out.trans (hbn.mono HB.out.size)
          clear hbn
          refine hK.out _ _ ?_ (fun hHeld => ?_)
          · exact HK.out _ HB.out
          clear hK K
          refine wpAnyH_ready (rs := [3]) (by kernel_rfl) (by simp) ?_
          refine AllReadyH.cons rfl (fun K hK => ?_) AllReadyH.nil
          go_simp
          have HLT : Hid (D.heap.size < Dpa.heap.size) := HPB.out.lt
          go_wp2_with (go_at_call 15; refine (HJ.out _ (HXI.out.1.later HB.out) (HXI.out.2.later HB.out)).mono ?_; rintro e Dpab hr; (obtain ⟨⟨zn, zm, zsA, zsc, zss, zcA, zcc, zcs, zvA, zvc, zvs⟩, ev, rfl, hzi, hbn, hze⟩ := retK_case hr; have HZE := Lib.hid hze; simp only [val_mk]; clear hr hze))
          replace HPB := Lib.hid (HPB.out.below hbn)
          have HZI : Hid ((Vl.mk zn zm zsA zsc zss zcA zcc zcs zvA zvc zvs).Inp (fun b => b < Dpab.heap.size ∧ b ≠ D.heap.size) Dpab) := hzi.mono fun b hP => ⟨hP.2, fun e => by have := hP.1; have := HLT.out; omega⟩
          replace HB : Hid (Below W1.heap.size W1 Dpab) := HB.out.trans (hbn.mono HB.out.size)
          clear hbn
          refine hK.out _ _ ?_ (fun hHeld => ?_)
          · exact HK.out _ HB.out
          clear hK K
          refine V4.takeH 4 74 (v := ?t13_v) rfl rfl (by kernel_rfl) (by kernel_rfl) (by kernel_rfl) (fun _ _ _ h => h) (Or.inl ⟨by rfl, ?t13_h⟩) (by assumption) ?t13_r
          case t13_h => (intro w hSw; (try dsimp only at hSw); go_simp; try (with_reducible rfl))
          simp only [List.set_cons_zero, List.set_cons_succ]
          refine V4.takeH 5 79 (v := ?t14_v) rfl rfl (by kernel_rfl) (by kernel_rfl) (by kernel_rfl) (fun _ _ _ h => h) (Or.inl ⟨by rfl, ?t14_h⟩) (by assumption) ?t14_r
          case t14_h => (intro w hSw; (try dsimp only at hSw); go_simp; try (with_reducible rfl))
          simp only [List.set_cons_zero, List.set_cons_succ]
          refine V4.takeH 6 80 (v := ?t15_v) rfl rfl (by kernel_rfl) (by kernel_rfl) (by kernel_rfl) (fun _ _ _ h => h) (Or.inl ⟨by rfl, ?t15_h⟩) (by assumption) ?t15_r
          case t15_h => (intro w hSw; (try dsimp only at hSw); go_simp; try (with_reducible rfl))
          simp only [List.set_cons_zero, List.set_cons_succ]
          have qp := HPB.out
          have d0 : Dpab.cell? ⟨D.heap.size, 0, none⟩ = some (.int .u64 0) := blk_cell qp 0 _ rfl
          have d1 : Dpab.cell? ⟨D.heap.size, 1, none⟩ = some (.int .u64 0) := blk_cell qp 1 _ rfl
          have d2 : Dpab.cell? ⟨D.heap.size, 2, none⟩ = some (.slice none 0 0) := blk_cell qp 2 _ rfl
          have d3 : Dpab.cell? ⟨D.heap.size, 3, none⟩ = some (.slice none 0 0) := blk_cell qp 3 _ rfl
          have d4 : Dpab.cell? ⟨D.heap.size, 4, none⟩ = some (.slice none 0 0) := blk_cell qp 4 _ rfl
          have f0 := blk_frozen qp 0
          have f1 := blk_frozen qp 1
          have f2 := blk_frozen qp 2
          have f3 := blk_frozen qp 3
          have f4 := blk_frozen qp 4
          refine wpAnyH_ready (rs := [8]) (by kernel_rfl) (by simp) ?_
          refine AllReadyH.cons rfl (fun K hK => ?_) AllReadyH.nil
          go_simp
          obtain ⟨Y, hY⟩ : ∃ Y, set5 Dpab (D.heap.size) (.int .u64 zn) (.int .u64 zm) (.slice zsA zss.length zsc) (.slice zcA zcs.length zcc) (.slice zvA zvs.length zvc) = Y := ⟨_, rfl⟩
          change K _ (set5 Dpab (D.heap.size) (.int .u64 zn) (.int .u64 zm) (.slice zsA zss.length zsc) (.slice zcA zcs.length zcc) (.slice zvA zvs.length zvc))
          rw [hY]
          have HMID : Hid (VMidK W1 o (.pointer (some ⟨D.heap.size, 0, none⟩)) ev Y) := by rw [← hY]; exact vmidk_mk (z := .mk zn zm zsA zsc zss zcA zcc zcs zvA zvc zvs) qp hpb HZI.out HZE.out HB.out
          replace HB : Hid (Below W1.heap.size W1 Y) := by rw [← hY]; exact set5_bel HB.out hpb
          refine hK.out _ _ ?_ (fun hHeld => ?_)
          · exact HK.out _ HB.out
          clear hK K
          refine V4.takeH 9 13 (v := ?t16_v) rfl rfl (by kernel_rfl) (by kernel_rfl) (by kernel_rfl) (fun _ _ _ h => h) (Or.inl ⟨by rfl, ?t16_h⟩) (by assumption) ?t16_r
          case t16_h => (intro w hSw; (try dsimp only at hSw); go_simp; try (with_reducible rfl))
          simp only [List.set_cons_zero, List.set_cons_succ]
          refine wpAnyH_done (by kernel_rfl) ?_ _
          refine NoPanic.normal ?_
          go_wp2_with fail
          go_meet
          exact HMID
      by_cases h40 : 40 < all.length
      · have g40 : decide ((40 : Int) < (all.length : Int)) = true := decide_eq_true (by omega)
        obtain ⟨pb, rfl, rfl, _, X12, bW2⟩ := hcut.out.err (K1.out.trans (if_pos h40))
        have bW2' := B0.trans (bW2.mono B0.size)
        clear h40 K1 HJ HL3
        obtain ⟨W2, hW2⟩ : ∃ W2, wc = W2 := ⟨_, rfl⟩
        rw [hW2] at X12 bW2'
        rw [hW2]
        clear hW2 hcut bW2
        have HI := Lib.hid (fun W => is_any 13 13 W)
        rw [decide_eq_true rfl] at HI
        unfold errV at HI ⊢
        go_upto_region 16 with fail
        go_wp2_with fail
        refine (HI.out _).mono ?_
        rintro e W3 ⟨rfl, bW3⟩
        replace X12 := X12.later bW3
        have B3 := bW2'.trans (bW3.mono bW2'.size)
        have l0 : W3.cell? ⟨pb, 0, none⟩ = some (.int .u64 0) := X12.2 0 _ rfl
        have l1 : W3.cell? ⟨pb, 1, none⟩ = some (.int .u64 0) := X12.2 1 _ rfl
        have l2 : W3.cell? ⟨pb, 2, none⟩ = some (.slice none 0 0) := X12.2 2 _ rfl
        have l3 : W3.cell? ⟨pb, 3, none⟩ = some (.slice none 0 0) := X12.2 3 _ rfl
        have l4 : W3.cell? ⟨pb, 4, none⟩ = some (.slice none 0 0) := X12.2 4 _ rfl
        have HM := Lib.hid (V4.refSameV_any vlZ vlZ W3 (V4.inp_zero _ _) (V4.inp_zero _ _))
        rw [decide_eq_true rfl] at HM
        go_wp2_with fail
        refine HM.out.mono ?_
        rintro e W4 ⟨rfl, bW4⟩
        go_wp2_with fail
        go_ret
        exact ⟨rfl, B3.trans (bW4.mono B3.size)⟩
      · have g40 : decide ((40 : Int) < (all.length : Int)) = false := decide_eq_false (by omega)
        obtain ⟨pb, z, rfl, rfl, _, X12, hze, I2, bW2⟩ := hcut.out.ok (K1.out.trans (if_neg h40))
        obtain ⟨zn, zm, zsA, zsc, zss, zcA, zcc, zcs, zvA, zvc, zvs⟩ := z
        rw [er_mk, mk_inj] at hze
        obtain ⟨_, _, rfl, _, _⟩ := hze
        have bW2' := B0.trans (bW2.mono B0.size)
        clear h40 K1 HJ
        obtain ⟨W2, hW2⟩ : ∃ W2, wc = W2 := ⟨_, rfl⟩
        rw [hW2] at X12 bW2' I2 bW2
        rw [hW2]
        clear hW2 hcut
        simp only [V4.Vl.n, V4.Vl.m, V4.Vl.s1, V4.Vl.c1, V4.Vl.v1] at X12
        have l2 : W2.cell? ⟨pb, 2, none⟩ = some (.slice zsA zss.length zsc) := X12.2 2 _ rfl
        have HST := Lib.hid (V4.sameTexts_V zsA A3 zsc c3 zss zss true W2 I2.out.sl (HL3.out.below bW2) (by unfold maxLen; omega) (decide_eq_true rfl))
        go_wp2_with fail
        refine HST.out.mono ?_
        rintro e W3 ⟨rfl, bW3⟩
        go_wp2_with fail
        go_ret
        exact ⟨rfl, bW2'.trans (bW3.mono bW2'.size)⟩
end Go.Proofs.YtleejffjnknohaaGreat.J5

namespace Go.Proofs.YtleejffjnknohaaGreat
open Go.ChangeShapes Go.WideShapes Go.ChangeAt Go.RowKit

theorem u8_in {n : Int} (h : (Lit.int .u8 n).wf = true) : 0 ≤ n ∧ n ≤ 255 := by
  simp [Lit.wf] at h
  have e1 : IntKind.u8.min = 0 := by decide
  have e2 : IntKind.u8.max = 255 := by decide
  omega
theorem u64_in {n : Int} (h : (Lit.int .u64 n).wf = true) : 0 ≤ n ∧ n ≤ 18446744073709551615 := by
  simp [Lit.wf] at h
  have e1 : IntKind.u64.min = 0 := by decide
  have e2 : IntKind.u64.max = 18446744073709551615 := by decide
  omega

set_option maxRecDepth 100000 in
theorem joinSets_lifted (os : Os) (started : os.Started) (H : Type) (enc : TypeId × Value → H) :
    ReturnsInHanded {} Tryz.checked os 5 .any (Rows.joinSetsSpec.pre6 enc Tryz.prog Tryz.f5 Rows.joinSetsRow.domain false) (Rows.joinSetsSpec.post enc Tryz.prog Tryz.f5 false true false false) := by
  refine returnsInHanded_of_change (C := Tryz.checked) (by kernel_rfl) started (by kernel_rfl) Tryz.func5
    (ChangeSpec.witness6 (enc := enc) (C := Tryz.checked) false ⟨#[], #[.int .u8 0, .int .u8 0], []⟩ 8 (by kernel_rfl) (by kernel_rfl) (by kernel_rfl) (by kernel_rfl)) ?_
  intro W base args ds gs before hval0 hW _ _
  have hval : ∀ (j : Nat) t v, Tryz.f5.params[j]? = some t → args[j]? = some v → Value.okWide Tryz.prog W .any base t v := hval0
  have hW' := hW
  obtain ⟨p, q, hA0, hV, rfl, _, _⟩ := hW
  have hA : DataW.TrodAll enc Tryz.prog W 0 (fun _ => true) true Tryz.f5.params.toList args.toList ds p := hA0
  rw [Tryz.params5] at hA hval
  obtain ⟨v0, vs0, d0, ds0, p0, q0, hargs, rfl, rfl, h0, r0⟩ := trodAll_cons hA
  obtain ⟨v1, vs1, d1, ds1, p1, q1, rfl, rfl, rfl, h1, r1⟩ := trodAll_cons r0
  obtain ⟨rfl, rfl, rfl⟩ := trodAll_nil r1
  obtain rfl : args = #[v0, v1] := by cases args; simp_all
  obtain ⟨rfl, rfl⟩ := trodVars_none hV
  obtain ⟨a0, rfl, rfl, rfl, w0⟩ := open_int Tryz.underlying5 (hval 0 5 v0 rfl rfl) h0
  obtain ⟨a1, rfl, rfl, rfl, w1⟩ := open_int Tryz.underlying5 (hval 1 5 v1 rfl rfl) h1
  clear hA0 hval0
  simp only [List.append_nil] at hW'
  refine (J5.joinSets_all a0 a1 (u8_in w0) (u8_in w1) W).mono fun e W' ⟨he, bel⟩ => ?_
  subst he
  exact ⟨_, rfl, _, _, _, [], _, [], hW', trodAll_mk1 (shut_bool Tryz.underlying4 _), (trodAll_cons_mk (shut_int Tryz.underlying5 w0) (trodAll_cons_mk (shut_int Tryz.underlying5 w1) trodAll_mk0)), rfl, bel.frame _, fun h => by cases h⟩

theorem joinSets_holds : Rows.JoinSetsSaid :=
  OpenClaim.holds_of_wide 5 Tryz.f5 rfl rfl rfl rfl rfl rfl rfl ⟨rfl, rfl, rfl, rfl, rfl⟩ rfl rfl rfl rfl rfl (by kernel_rfl) Tryz.func5 (by kernel_rfl)
    (of_decide_eq_true (by kernel_rfl)) (by unfold Func.isWrapper; first | (rw [if_pos (by decide +kernel)]; kernel_rfl) | (rw [if_neg (by decide +kernel)]; exact ⟨rfl, rfl⟩))
    (fun os started H enc _ => joinSets_lifted os started H enc)
end Go.Proofs.YtleejffjnknohaaGreat
