/- JoinSiblingsSaid is proved: at every input the law returns true, and each argument reads afterwards as it read before. No condition. What JoinSiblings does: it answers true. No condition but that what is handed in are numbers of their kinds. The versions that JoinSiblings makes, and the clock that has seen some of them, in memory. No condition. Versions that don't see one another, joined with one that has seen some of them: plain mathematics. No condition. What the law's own helper, of, answers; two versions of one tick each: plain mathematics, and in memory. No condition. Rows of values joined: the same in whatever order, however often. Plain mathematics. No condition but that no number is below 0. Values joined: the least that is not less than either. Plain mathematics. No condition but that the schema is one, and that the values are of it. Values of a schema as an order: less, or the same. Plain mathematics. No condition but that the schema is one. Clocks and last writers as orders. Plain mathematics. No condition. Two lines of marks gone through together: what stands in it; what comes of it. Plain mathematics. No condition. What the reference's is and Is do, of maps and pairs, and of all. No condition but that what they take lies in memory. -/
import Derived.Test.YtleejffjnknohaaGreatMo01
import Derived.Test.YtleejffjnknohaaGreatMo02
import Derived.Test.YtleejffjnknohaaGreatMo03
import Derived.Test.YtleejffjnknohaaGreatMo04
import Derived.Test.YtleejffjnknohaaGreatMo05
import Derived.Test.YtleejffjnknohaaGreatMo06
import Derived.Test.YtleejffjnknohaaGreatMo07
import Derived.Test.YtleejffjnknohaaGreatMo08
import Derived.Test.YtleejffjnknohaaGreatMo09
import Derived.Test.YtleejffjnknohaaGreatMo10
import Derived.Test.YtleejffjnknohaaGreatMo11
import Derived.Test.YtleejffjnknohaaGreatMo12
import Derived.Test.YtleejffjnknohaaGreatMo13
import Derived.Test.YtleejffjnknohaaGreatMo14
import Derived.Test.YtleejffjnknohaaGreatMo15
import Derived.Test.YtleejffjnknohaaGreatMo16
import Derived.Test.YtleejffjnknohaaGreatMo17
import Derived.Test.YtleejffjnknohaaGreatMo18
import Derived.Test.YtleejffjnknohaaGreatMo19
import Derived.Test.YtleejffjnknohaaGreatMo20
import Derived.Test.YtleejffjnknohaaGreatMo21
import Derived.Test.YtleejffjnknohaaGreatMo22
import Derived.Test.YtleejffjnknohaaGreatMo23
import Derived.Test.YtleejffjnknohaaGreatMo24
import Derived.Test.YtleejffjnknohaaGreatMo25
import Derived.Test.YtleejffjnknohaaGreatMoJga
import Derived.StillTailTactics
import Derived.Deep.RegionHeld3
import Derived.Deep.DeepCutAuto
import Derived.Sort.CutIn
import Derived.WalkKit
import Derived.ProofKit
import Derived.OpenShut
namespace Go.Proofs.YtleejffjnknohaaGreat.V4
open Go.RowKit
open C3 (Tk Asc isC ofC cmpC Nok In belAl allocB drewB RetT)
open S2 (Tr Sc isT)

set_option maxRecDepth 100000 in
set_option maxHeartbeats 4000000 in
theorem refIsV_4 (A : Option Addr) (c : Nat) (a : Sc) (x : Vl) (w : World) (hs : (Sc.mk 4 A c [a]).In w.heap.size w) (hx : x.In w) (p : Va → Bool) (ih : ∀ (y : Vl) (w : World), a.In w.heap.size w → y.In w → Calls Tryz.prog 32 #[a.val, y.val] w (RetV w (.bool (p y.er)))) : Calls Tryz.prog 32 #[(Sc.mk 4 A c [a]).val, x.val] w (RetV w (.bool (baseV 4 x.er && mapV p (botT a.er) x.er.v))) := by
  obtain ⟨n, m, sA, sc, ss, cA, cc, cs, vA, vc, vs⟩ := x
  have HS := Lib.hid hs
  have IH := Lib.hid ih
  clear hs ih
  have HB0 : Hid (Below w.heap.size w ((w.alloc (.cells #[.int .i64 4, .slice A 1 c] 24)).alloc (.cells #[.int .u64 n, .int .u64 m, .slice sA ss.length sc, .slice cA cs.length cc, .slice vA vs.length vc] 32))) := belAl (allocB _ _)
  have HX := Lib.hid (hx.later HB0.out)
  have P := hx.out
  have HP := Lib.hid P
  have HSB : Hid (ss.length ≤ maxLen) := Nat.le_trans P.sb.1 P.sb.2.1
  have hsm : ss.length ≤ 9223372036854775807 := by have := P.sb; unfold maxLen at this; omega
  have hcm : cs.length ≤ 9223372036854775807 := by have := P.cb; unfold maxLen at this; omega
  have hvm : vs.length ≤ 9223372036854775807 := by have := P.vb; unfold maxLen at this; omega
  obtain ⟨t, ht⟩ : ∃ z, fitsV 4 (Vl.mk n m sA sc ss cA cc cs vA vc vs).er = z := ⟨_, rfl⟩
  obtain ⟨u, hu⟩ : ∃ z, decide (R1.Srt ss) = z := ⟨_, rfl⟩
  obtain ⟨q, hq⟩ : ∃ z, decide (ss.length ≤ 40) = z := ⟨_, rfl⟩
  have HF : Hid (baseV 4 (Vl.mk n m sA sc ss cA cc cs vA vc vs).er = (t && (u && q))) := by
    show baseV _ _ = _
    unfold baseV
    rw [ht, er_mk, show (Va.mk n m ss (cs.map Ck.l) (vs.map Vl.er)).s = ss from rfl, hu, hq]
  have HT := Lib.hid ht
  have HU := Lib.hid hu
  have HQ := Lib.hid hq
  rw [HF.out]
  clear hx P ht hu hq HF
  simp only [S2.val_mk, val_mk, List.length_nil, List.length_cons, Nat.zero_add]
  go_enter Tryz.func32, Tryz.ntmps32
  go_wp2_with fail
  refine (refFits_at 4 A c 1 n m sA sc ss cA cc cs vA vc vs t _ HX.out HT.out).mono ?_
  rintro e w1 ⟨rfl, hb1⟩
  have HBX : Hid (Boxes w 4 A 1 c n m sA ss.length sc cA cs.length cc vA vs.length vc w1) := Boxes.later ⟨by go_simp, by go_simp, by go_simp, by go_simp, by go_simp, by go_simp, by go_simp, by simp, HB0.out⟩ hb1
  clear hb1 HB0 HX
  cases t with
  | false =>
    go_wp2_with fail
    go_ret
    exact ⟨rfl, HBX.out.bel⟩
  | true =>
    have c2 := HBX.out.c2
    go_wp2_with fail
    refine (refRises_at sA sc ss u _ (HP.out.sl.below HBX.out.bel) HSB.out HU.out).mono ?_
    rintro e w2 ⟨rfl, hb2⟩
    replace HBX := Lib.hid (HBX.out.later hb2)
    clear hb2 c2
    cases u with
    | false =>
      go_wp2_with fail
      go_ret
      exact ⟨rfl, HBX.out.bel⟩
    | true =>
      have c2 := HBX.out.c2
      have i0 := HBX.out.i0
      cases q with
      | false =>
        have dq : 40 < ss.length := by have := of_decide_eq_false HQ.out; omega
        go_wp2_with fail
        go_ret
        exact ⟨rfl, HBX.out.bel⟩
      | true =>
        have dq : decide (40 < (ss.length : Int)) = false := decide_eq_false (by have := of_decide_eq_true HQ.out; omega)
        have i1 := HBX.out.i1
        have c4 := HBX.out.c4
        go_wp2_with fail
        go_loopw [5] (fun iv wr => ∃ i : Nat, i ≤ vs.length ∧ iv = .int .i64 i ∧ Hid (((vs.map Vl.er).take i).all (fun y => p y && !decide (y = botT a.er)) = true) ∧ Hid (Boxes w 4 A 1 c n m sA ss.length sc cA cs.length cc vA vs.length vc wr)) (fun iv _ => vs.length - (intOf iv).toNat)
        case atStart => exact ⟨0, Nat.zero_le _, rfl, by simp [Hid], HBX⟩
        case round =>
          clear HBX c2 i0 i1 c4
          obtain ⟨i, hi, rfl, h0, HBX⟩ := hrel
          have c4 := HBX.out.c4
          by_cases hlt : i < vs.length
          · obtain ⟨hl0, -, -, hall⟩ := HS.out.out
            obtain ⟨b, off, rfl, hb, hcl⟩ := (hl0.below HBX.out.bel).get (k := 0) (by simp)
            obtain ⟨g0, g1⟩ := hcl 0 a rfl
            obtain ⟨y, hy⟩ : ∃ y, vs[i]? = some y := ⟨_, List.getElem?_eq_getElem hlt⟩
            obtain ⟨b2, off2, rfl, hb2, hy0, hy1, hy2, hy3, hy4⟩ := value_at (HP.out.vl.below HBX.out.bel) hy
            simp only [Nat.zero_mul, Nat.add_zero] at g0 g1
            have HR2 : Hid (Row2 b off a b2 (off2 + i * 5) y wr.drew) := Row2.later ⟨g0, g1, hy0, hy1, hy2, hy3, hy4, Nat.lt_of_lt_of_le hb HBX.out.bel.size, Nat.lt_of_lt_of_le hb2 HBX.out.bel.size, ((hall a (by simp)).keep HBX.out.bel).up HBX.out.bel.size, (HP.out.vk y (List.mem_of_getElem? hy)).later HBX.out.bel⟩ (drewB wr)
            have HY := Lib.hid hy
            obtain ⟨u1, hu1⟩ : ∃ z, p y.er = z := ⟨_, rfl⟩
            obtain ⟨u2, hu2⟩ : ∃ z, decide (y.er = botT a.er) = z := ⟨_, rfl⟩
            have HPQ : Hid ((fun y => p y && !decide (y = botT a.er)) y.er = (u1 && !u2)) := by show (p y.er && !decide (y.er = botT a.er)) = _; rw [hu1, hu2]
            have HU1 := Lib.hid hu1
            have HU2 := Lib.hid hu2
            clear hl0 hall hcl g0 g1 hy hy0 hy1 hy2 hy3 hy4 hu1 hu2
            obtain ⟨ak, aA, ac, al⟩ := a
            obtain ⟨yn, ym, ysA, ysc, yss, ycA, ycc, ycs, yvA, yvc, yvs⟩ := y
            simp only [S2.val_mk] at IH
            have hli : (i : Int) < (vs.length : Int) := by omega
            cases u1 with
            | false =>
              have HFA : Hid (mapV p (botT (Sc.mk ak aA ac al).er) (Vl.mk n m sA sc ss cA cc cs (some ⟨b2, off2, none⟩) vc vs).er.v = false) := by
                show mapV _ _ _ = false
                rw [er_mk]
                exact all_fail (map_at (f := Vl.er) HY.out) HPQ.out
              go_wp2_with fail
              replace HBX := Lib.hid (HBX.out.later (drewB wr))
              refine wp_region_noPanic ?_
              refine wp_region_held_drew (S := (fun w' => w'.cell? ⟨w.heap.size, 1, none⟩ = some (.slice (some ⟨b, off, none⟩) 1 c) ∧ w'.cell? ⟨w.heap.size + 1, 4, none⟩ = some (.slice (some ⟨b2, off2, none⟩) vs.length vc) ∧ w'.cell? ⟨b, off, none⟩ = some (.int .i64 ak) ∧ w'.cell? ⟨b, off + 1, none⟩ = some (.slice aA al.length ac) ∧ w'.cell? ⟨b2, off2 + i * 5, none⟩ = some (.int .u64 yn) ∧ w'.cell? ⟨b2, off2 + i * 5 + 1, none⟩ = some (.int .u64 ym) ∧ w'.cell? ⟨b2, off2 + i * 5 + 2, none⟩ = some (.slice ysA yss.length ysc) ∧ w'.cell? ⟨b2, off2 + i * 5 + 3, none⟩ = some (.slice ycA ycs.length ycc) ∧ w'.cell? ⟨b2, off2 + i * 5 + 4, none⟩ = some (.slice yvA yvs.length yvc))) (by kernel_rfl) ?_ (fun hHeld => ?_)
              · exact ⟨HBX.out.i1, HBX.out.c4, HR2.out.s0, HR2.out.s1, HR2.out.y0, HR2.out.y1, HR2.out.y2, HR2.out.y3, HR2.out.y4⟩
              refine takeH 0 33 (v := ?q1_v0) rfl rfl (by kernel_rfl) (by kernel_rfl) (by kernel_rfl) (fun _ _ _ h => h) (Or.inl ⟨by rfl, ?q1_h0⟩) (by assumption) ?q1_r0
              case q1_h0 => (intro w hSw; (try dsimp only at hSw); go_simp; try (with_reducible rfl))
              simp only [List.set_cons_zero, List.set_cons_succ]
              refine takeH 1 34 (v := ?q1_v1) rfl rfl (by kernel_rfl) (by kernel_rfl) (by kernel_rfl) (fun _ _ _ h => h) (Or.inl ⟨by rfl, ?q1_h1⟩) (by assumption) ?q1_r1
              case q1_h1 => (intro w hSw; (try dsimp only at hSw); go_simp; try (with_reducible rfl))
              simp only [List.set_cons_zero, List.set_cons_succ]
              refine takeH 2 35 (v := ?q1_v2) rfl rfl (by kernel_rfl) (by kernel_rfl) (by kernel_rfl) (fun _ _ _ h => h) (Or.inl ⟨by rfl, ?q1_h2⟩) (by assumption) ?q1_r2
              case q1_h2 => (intro w hSw; (try dsimp only at hSw); go_simp; try (with_reducible rfl))
              simp only [List.set_cons_zero, List.set_cons_succ]
              refine takeH 3 36 (v := ?q1_v3) rfl rfl (by kernel_rfl) (by kernel_rfl) (by kernel_rfl) (fun _ _ _ h => h) (Or.inl ⟨by rfl, ?q1_h3⟩) (by assumption) ?q1_r3
              case q1_h3 => (intro w hSw; (try dsimp only at hSw); go_simp; try (with_reducible rfl))
              simp only [List.set_cons_zero, List.set_cons_succ]
              refine takeH 4 37 (v := ?q1_v4) rfl rfl (by kernel_rfl) (by kernel_rfl) (by kernel_rfl) (fun _ _ _ h => h) (Or.inl ⟨by rfl, ?q1_h4⟩) (by assumption) ?q1_r4
              case q1_h4 => (intro w hSw; (try dsimp only at hSw); go_simp; try (with_reducible rfl))
              simp only [List.set_cons_zero, List.set_cons_succ]
              refine takeH 5 38 (v := ?q1_v5) rfl rfl (by kernel_rfl) (by kernel_rfl) (by kernel_rfl) (fun _ _ _ h => h) (Or.inl ⟨by rfl, ?q1_h5⟩) (by assumption) ?q1_r5
              case q1_h5 => (intro w hSw; (try dsimp only at hSw); go_simp; try (with_reducible rfl))
              simp only [List.set_cons_zero, List.set_cons_succ]
              refine takeH 6 39 (v := ?q1_v6) rfl rfl (by kernel_rfl) (by kernel_rfl) (by kernel_rfl) (fun _ _ _ h => h) (Or.inl ⟨by rfl, ?q1_h6⟩) (by assumption) ?q1_r6
              case q1_h6 => (intro w hSw; (try dsimp only at hSw); go_simp; try (with_reducible rfl))
              simp only [List.set_cons_zero, List.set_cons_succ]
              refine takeH 7 40 (v := ?q1_v7) rfl rfl (by kernel_rfl) (by kernel_rfl) (by kernel_rfl) (fun _ _ _ h => h) (Or.inl ⟨by rfl, ?q1_h7⟩) (by assumption) ?q1_r7
              case q1_h7 => (intro w hSw; (try dsimp only at hSw); go_simp; try (with_reducible rfl))
              simp only [List.set_cons_zero, List.set_cons_succ]
              refine takeH 8 41 (v := ?q1_v8) rfl rfl (by kernel_rfl) (by kernel_rfl) (by kernel_rfl) (fun _ _ _ h => h) (Or.inl ⟨by rfl, ?q1_h8⟩) (by assumption) ?q1_r8
              case q1_h8 => (intro w hSw; (try dsimp only at hSw); go_simp; try (with_reducible rfl))
              simp only [List.set_cons_zero, List.set_cons_succ]
              refine wpAnyH_ready (rs := [9]) (by kernel_rfl) (by simp) ?_
              refine AllReadyH.cons rfl (fun K hK => ?_) AllReadyH.nil
              go_simp
              go_wp2_with (go_at_call 32; refine (IH.out (.mk yn ym ysA ysc yss ycA ycc ycs yvA yvc yvs) _ HR2.out.ia HR2.out.iy).mono ?_; rintro e w5 ⟨rfl, hb5⟩; (rw [HU1.out]; replace HBX := Lib.hid (HBX.out.later hb5); replace HR2 := Lib.hid (HR2.out.later hb5); clear hb5))
              refine hK.out _ _ ?_ (fun hHeld => ?_)
              · exact ⟨HBX.out.i1, HBX.out.c4, HR2.out.s0, HR2.out.s1, HR2.out.y0, HR2.out.y1, HR2.out.y2, HR2.out.y3, HR2.out.y4⟩
              clear hK K
              refine takeH 10 43 (v := ?q1_v10) rfl rfl (by kernel_rfl) (by kernel_rfl) (by kernel_rfl) (fun _ _ _ h => h) (Or.inl ⟨by rfl, ?q1_h10⟩) (by assumption) ?q1_r10
              case q1_h10 => (intro w hSw; (try dsimp only at hSw); go_simp; try (with_reducible rfl))
              simp only [List.set_cons_zero, List.set_cons_succ]
              refine takeH 11 44 (v := ?q1_v11) rfl rfl (by kernel_rfl) (by kernel_rfl) (by kernel_rfl) (fun _ _ _ h => h) (Or.inl ⟨by rfl, ?q1_h11⟩) (by assumption) ?q1_r11
              case q1_h11 => (intro w hSw; (try dsimp only at hSw); go_simp; try (with_reducible rfl))
              simp only [List.set_cons_zero, List.set_cons_succ]
              refine takeH 12 45 (v := undef) rfl rfl (by kernel_rfl) (by kernel_rfl) (by kernel_rfl) (fun _ _ _ h => h) (Or.inr ⟨by rfl, rfl⟩) (by assumption) ?_
              simp only [List.set_cons_zero, List.set_cons_succ]
              refine takeH 13 46 (v := undef) rfl rfl (by kernel_rfl) (by kernel_rfl) (by kernel_rfl) (fun _ _ _ h => h) (Or.inr ⟨by rfl, rfl⟩) (by assumption) ?_
              simp only [List.set_cons_zero, List.set_cons_succ]
              refine takeH 14 47 (v := undef) rfl rfl (by kernel_rfl) (by kernel_rfl) (by kernel_rfl) (fun _ _ _ h => h) (Or.inr ⟨by rfl, rfl⟩) (by assumption) ?_
              simp only [List.set_cons_zero, List.set_cons_succ]
              refine takeH 15 48 (v := undef) rfl rfl (by kernel_rfl) (by kernel_rfl) (by kernel_rfl) (fun _ _ _ h => h) (Or.inr ⟨by rfl, rfl⟩) (by assumption) ?_
              simp only [List.set_cons_zero, List.set_cons_succ]
              refine takeH 16 49 (v := undef) rfl rfl (by kernel_rfl) (by kernel_rfl) (by kernel_rfl) (fun _ _ _ h => h) (Or.inr ⟨by rfl, rfl⟩) (by assumption) ?_
              simp only [List.set_cons_zero, List.set_cons_succ]
              refine takeH 17 50 (v := undef) rfl rfl (by kernel_rfl) (by kernel_rfl) (by kernel_rfl) (fun _ _ _ h => h) (Or.inr ⟨by rfl, rfl⟩) (by assumption) ?_
              simp only [List.set_cons_zero, List.set_cons_succ]
              refine takeH 18 51 (v := undef) rfl rfl (by kernel_rfl) (by kernel_rfl) (by kernel_rfl) (fun _ _ _ h => h) (Or.inr ⟨by rfl, rfl⟩) (by assumption) ?_
              simp only [List.set_cons_zero, List.set_cons_succ]
              refine takeH 19 52 (v := undef) rfl rfl (by kernel_rfl) (by kernel_rfl) (by kernel_rfl) (fun _ _ _ h => h) (Or.inr ⟨by rfl, rfl⟩) (by assumption) ?_
              simp only [List.set_cons_zero, List.set_cons_succ]
              refine takeH 20 53 (v := undef) rfl rfl (by kernel_rfl) (by kernel_rfl) (by kernel_rfl) (fun _ _ _ h => h) (Or.inr ⟨by rfl, rfl⟩) (by assumption) ?_
              simp only [List.set_cons_zero, List.set_cons_succ]
              refine takeH 21 54 (v := undef) rfl rfl (by kernel_rfl) (by kernel_rfl) (by kernel_rfl) (fun _ _ _ h => h) (Or.inr ⟨by rfl, rfl⟩) (by assumption) ?_
              simp only [List.set_cons_zero, List.set_cons_succ]
              refine takeH 22 55 (v := ?q1_v22) rfl rfl (by kernel_rfl) (by kernel_rfl) (by kernel_rfl) (fun _ _ _ h => h) (Or.inl ⟨by rfl, ?q1_h22⟩) (by assumption) ?q1_r22
              case q1_h22 => (intro w hSw; (try dsimp only at hSw); go_simp; try (with_reducible rfl))
              simp only [List.set_cons_zero, List.set_cons_succ]
              refine wpAnyH_done (by kernel_rfl) ?_ _
              refine NoPanic.normal ?_
              go_wp2_with fail
              go_ret
              exact ⟨ret_bool (by rw [HFA.out]; rfl), HBX.out.bel⟩
            | true =>
              cases u2 with
              | true =>
                have HFA : Hid (mapV p (botT (Sc.mk ak aA ac al).er) (Vl.mk n m sA sc ss cA cc cs (some ⟨b2, off2, none⟩) vc vs).er.v = false) := by
                  show mapV _ _ _ = false
                  rw [er_mk]
                  exact all_fail (map_at (f := Vl.er) HY.out) HPQ.out
                go_wp2_with fail
                replace HBX := Lib.hid (HBX.out.later (drewB wr))
                refine wp_region_noPanic ?_
                refine wp_region_held_drew (S := (fun w' => w'.cell? ⟨w.heap.size, 1, none⟩ = some (.slice (some ⟨b, off, none⟩) 1 c) ∧ w'.cell? ⟨w.heap.size + 1, 4, none⟩ = some (.slice (some ⟨b2, off2, none⟩) vs.length vc) ∧ w'.cell? ⟨b, off, none⟩ = some (.int .i64 ak) ∧ w'.cell? ⟨b, off + 1, none⟩ = some (.slice aA al.length ac) ∧ w'.cell? ⟨b2, off2 + i * 5, none⟩ = some (.int .u64 yn) ∧ w'.cell? ⟨b2, off2 + i * 5 + 1, none⟩ = some (.int .u64 ym) ∧ w'.cell? ⟨b2, off2 + i * 5 + 2, none⟩ = some (.slice ysA yss.length ysc) ∧ w'.cell? ⟨b2, off2 + i * 5 + 3, none⟩ = some (.slice ycA ycs.length ycc) ∧ w'.cell? ⟨b2, off2 + i * 5 + 4, none⟩ = some (.slice yvA yvs.length yvc))) (by kernel_rfl) ?_ (fun hHeld => ?_)
                · exact ⟨HBX.out.i1, HBX.out.c4, HR2.out.s0, HR2.out.s1, HR2.out.y0, HR2.out.y1, HR2.out.y2, HR2.out.y3, HR2.out.y4⟩
                refine takeH 0 33 (v := ?q2_v0) rfl rfl (by kernel_rfl) (by kernel_rfl) (by kernel_rfl) (fun _ _ _ h => h) (Or.inl ⟨by rfl, ?q2_h0⟩) (by assumption) ?q2_r0
                case q2_h0 => (intro w hSw; (try dsimp only at hSw); go_simp; try (with_reducible rfl))
                simp only [List.set_cons_zero, List.set_cons_succ]
                refine takeH 1 34 (v := ?q2_v1) rfl rfl (by kernel_rfl) (by kernel_rfl) (by kernel_rfl) (fun _ _ _ h => h) (Or.inl ⟨by rfl, ?q2_h1⟩) (by assumption) ?q2_r1
                case q2_h1 => (intro w hSw; (try dsimp only at hSw); go_simp; try (with_reducible rfl))
                simp only [List.set_cons_zero, List.set_cons_succ]
                refine takeH 2 35 (v := ?q2_v2) rfl rfl (by kernel_rfl) (by kernel_rfl) (by kernel_rfl) (fun _ _ _ h => h) (Or.inl ⟨by rfl, ?q2_h2⟩) (by assumption) ?q2_r2
                case q2_h2 => (intro w hSw; (try dsimp only at hSw); go_simp; try (with_reducible rfl))
                simp only [List.set_cons_zero, List.set_cons_succ]
                refine takeH 3 36 (v := ?q2_v3) rfl rfl (by kernel_rfl) (by kernel_rfl) (by kernel_rfl) (fun _ _ _ h => h) (Or.inl ⟨by rfl, ?q2_h3⟩) (by assumption) ?q2_r3
                case q2_h3 => (intro w hSw; (try dsimp only at hSw); go_simp; try (with_reducible rfl))
                simp only [List.set_cons_zero, List.set_cons_succ]
                refine takeH 4 37 (v := ?q2_v4) rfl rfl (by kernel_rfl) (by kernel_rfl) (by kernel_rfl) (fun _ _ _ h => h) (Or.inl ⟨by rfl, ?q2_h4⟩) (by assumption) ?q2_r4
                case q2_h4 => (intro w hSw; (try dsimp only at hSw); go_simp; try (with_reducible rfl))
                simp only [List.set_cons_zero, List.set_cons_succ]
                refine takeH 5 38 (v := ?q2_v5) rfl rfl (by kernel_rfl) (by kernel_rfl) (by kernel_rfl) (fun _ _ _ h => h) (Or.inl ⟨by rfl, ?q2_h5⟩) (by assumption) ?q2_r5
                case q2_h5 => (intro w hSw; (try dsimp only at hSw); go_simp; try (with_reducible rfl))
                simp only [List.set_cons_zero, List.set_cons_succ]
                refine takeH 6 39 (v := ?q2_v6) rfl rfl (by kernel_rfl) (by kernel_rfl) (by kernel_rfl) (fun _ _ _ h => h) (Or.inl ⟨by rfl, ?q2_h6⟩) (by assumption) ?q2_r6
                case q2_h6 => (intro w hSw; (try dsimp only at hSw); go_simp; try (with_reducible rfl))
                simp only [List.set_cons_zero, List.set_cons_succ]
                refine takeH 7 40 (v := ?q2_v7) rfl rfl (by kernel_rfl) (by kernel_rfl) (by kernel_rfl) (fun _ _ _ h => h) (Or.inl ⟨by rfl, ?q2_h7⟩) (by assumption) ?q2_r7
                case q2_h7 => (intro w hSw; (try dsimp only at hSw); go_simp; try (with_reducible rfl))
                simp only [List.set_cons_zero, List.set_cons_succ]
                refine takeH 8 41 (v := ?q2_v8) rfl rfl (by kernel_rfl) (by kernel_rfl) (by kernel_rfl) (fun _ _ _ h => h) (Or.inl ⟨by rfl, ?q2_h8⟩) (by assumption) ?q2_r8
                case q2_h8 => (intro w hSw; (try dsimp only at hSw); go_simp; try (with_reducible rfl))
                simp only [List.set_cons_zero, List.set_cons_succ]
                refine wpAnyH_ready (rs := [9]) (by kernel_rfl) (by simp) ?_
                refine AllReadyH.cons rfl (fun K hK => ?_) AllReadyH.nil
                go_simp
                go_wp2_with (go_at_call 32; refine (IH.out (.mk yn ym ysA ysc yss ycA ycc ycs yvA yvc yvs) _ HR2.out.ia HR2.out.iy).mono ?_; rintro e w5 ⟨rfl, hb5⟩; (rw [HU1.out]; replace HBX := Lib.hid (HBX.out.later hb5); replace HR2 := Lib.hid (HR2.out.later hb5); clear hb5))
                refine hK.out _ _ ?_ (fun hHeld => ?_)
                · exact ⟨HBX.out.i1, HBX.out.c4, HR2.out.s0, HR2.out.s1, HR2.out.y0, HR2.out.y1, HR2.out.y2, HR2.out.y3, HR2.out.y4⟩
                clear hK K
                refine takeH 10 43 (v := ?q2_v10) rfl rfl (by kernel_rfl) (by kernel_rfl) (by kernel_rfl) (fun _ _ _ h => h) (Or.inl ⟨by rfl, ?q2_h10⟩) (by assumption) ?q2_r10
                case q2_h10 => (intro w hSw; (try dsimp only at hSw); go_simp; try (with_reducible rfl))
                simp only [List.set_cons_zero, List.set_cons_succ]
                refine takeH 11 44 (v := ?q2_v11) rfl rfl (by kernel_rfl) (by kernel_rfl) (by kernel_rfl) (fun _ _ _ h => h) (Or.inl ⟨by rfl, ?q2_h11⟩) (by assumption) ?q2_r11
                case q2_h11 => (intro w hSw; (try dsimp only at hSw); go_simp; try (with_reducible rfl))
                simp only [List.set_cons_zero, List.set_cons_succ]
                refine takeH 12 45 (v := ?q2_v12) rfl rfl (by kernel_rfl) (by kernel_rfl) (by kernel_rfl) (fun _ _ _ h => h) (Or.inl ⟨by rfl, ?q2_h12⟩) (by assumption) ?q2_r12
                case q2_h12 => (intro w hSw; (try dsimp only at hSw); go_simp; try (with_reducible rfl))
                simp only [List.set_cons_zero, List.set_cons_succ]
                refine takeH 13 46 (v := ?q2_v13) rfl rfl (by kernel_rfl) (by kernel_rfl) (by kernel_rfl) (fun _ _ _ h => h) (Or.inl ⟨by rfl, ?q2_h13⟩) (by assumption) ?q2_r13
                case q2_h13 => (intro w hSw; (try dsimp only at hSw); go_simp; try (with_reducible rfl))
                simp only [List.set_cons_zero, List.set_cons_succ]
                refine takeH 14 47 (v := ?q2_v14) rfl rfl (by kernel_rfl) (by kernel_rfl) (by kernel_rfl) (fun _ _ _ h => h) (Or.inl ⟨by rfl, ?q2_h14⟩) (by assumption) ?q2_r14
                case q2_h14 => (intro w hSw; (try dsimp only at hSw); go_simp; try (with_reducible rfl))
                simp only [List.set_cons_zero, List.set_cons_succ]
                refine takeH 15 48 (v := ?q2_v15) rfl rfl (by kernel_rfl) (by kernel_rfl) (by kernel_rfl) (fun _ _ _ h => h) (Or.inl ⟨by rfl, ?q2_h15⟩) (by assumption) ?q2_r15
                case q2_h15 => (intro w hSw; (try dsimp only at hSw); go_simp; try (with_reducible rfl))
                simp only [List.set_cons_zero, List.set_cons_succ]
                refine takeH 16 49 (v := ?q2_v16) rfl rfl (by kernel_rfl) (by kernel_rfl) (by kernel_rfl) (fun _ _ _ h => h) (Or.inl ⟨by rfl, ?q2_h16⟩) (by assumption) ?q2_r16
                case q2_h16 => (intro w hSw; (try dsimp only at hSw); go_simp; try (with_reducible rfl))
                simp only [List.set_cons_zero, List.set_cons_succ]
                refine takeH 17 50 (v := ?q2_v17) rfl rfl (by kernel_rfl) (by kernel_rfl) (by kernel_rfl) (fun _ _ _ h => h) (Or.inl ⟨by rfl, ?q2_h17⟩) (by assumption) ?q2_r17
                case q2_h17 => (intro w hSw; (try dsimp only at hSw); go_simp; try (with_reducible rfl))
                simp only [List.set_cons_zero, List.set_cons_succ]
                refine takeH 18 51 (v := ?q2_v18) rfl rfl (by kernel_rfl) (by kernel_rfl) (by kernel_rfl) (fun _ _ _ h => h) (Or.inl ⟨by rfl, ?q2_h18⟩) (by assumption) ?q2_r18
                case q2_h18 => (intro w hSw; (try dsimp only at hSw); go_simp; try (with_reducible rfl))
                simp only [List.set_cons_zero, List.set_cons_succ]
                refine takeH 19 52 (v := ?q2_v19) rfl rfl (by kernel_rfl) (by kernel_rfl) (by kernel_rfl) (fun _ _ _ h => h) (Or.inl ⟨by rfl, ?q2_h19⟩) (by assumption) ?q2_r19
                case q2_h19 => (intro w hSw; (try dsimp only at hSw); go_simp; try (with_reducible rfl))
                simp only [List.set_cons_zero, List.set_cons_succ]
                refine takeH 20 53 (v := ?q2_v20) rfl rfl (by kernel_rfl) (by kernel_rfl) (by kernel_rfl) (fun _ _ _ h => h) (Or.inl ⟨by rfl, ?q2_h20⟩) (by assumption) ?q2_r20
                case q2_h20 => (intro w hSw; (try dsimp only at hSw); go_simp; try (with_reducible rfl))
                simp only [List.set_cons_zero, List.set_cons_succ]
                refine wpAnyH_ready (rs := [21]) (by kernel_rfl) (by simp) ?_
                refine AllReadyH.cons rfl (fun K hK => ?_) AllReadyH.nil
                go_simp
                go_wp2_with (go_at_call 22; refine (refNone_any (.mk ak aA ac al) (.mk yn ym ysA ysc yss ycA ycc ycs yvA yvc yvs) _ HR2.out.ia HR2.out.iy).mono ?_; rintro e w6 ⟨rfl, hb5⟩; (rw [HU2.out]; replace HBX := Lib.hid (HBX.out.later hb5); replace HR2 := Lib.hid (HR2.out.later hb5); clear hb5))
                refine hK.out _ _ ?_ (fun hHeld => ?_)
                · exact ⟨HBX.out.i1, HBX.out.c4, HR2.out.s0, HR2.out.s1, HR2.out.y0, HR2.out.y1, HR2.out.y2, HR2.out.y3, HR2.out.y4⟩
                clear hK K
                refine takeH 22 55 (v := ?q2_v22) rfl rfl (by kernel_rfl) (by kernel_rfl) (by kernel_rfl) (fun _ _ _ h => h) (Or.inl ⟨by rfl, ?q2_h22⟩) (by assumption) ?q2_r22
                case q2_h22 => (intro w hSw; (try dsimp only at hSw); go_simp; try (with_reducible rfl))
                simp only [List.set_cons_zero, List.set_cons_succ]
                refine wpAnyH_done (by kernel_rfl) ?_ _
                refine NoPanic.normal ?_
                go_wp2_with fail
                go_ret
                exact ⟨ret_bool (by rw [HFA.out]; rfl), HBX.out.bel⟩
              | false =>
                go_wp2_with fail
                replace HBX := Lib.hid (HBX.out.later (drewB wr))
                refine wp_region_noPanic ?_
                refine wp_region_held_drew (S := (fun w' => w'.cell? ⟨w.heap.size, 1, none⟩ = some (.slice (some ⟨b, off, none⟩) 1 c) ∧ w'.cell? ⟨w.heap.size + 1, 4, none⟩ = some (.slice (some ⟨b2, off2, none⟩) vs.length vc) ∧ w'.cell? ⟨b, off, none⟩ = some (.int .i64 ak) ∧ w'.cell? ⟨b, off + 1, none⟩ = some (.slice aA al.length ac) ∧ w'.cell? ⟨b2, off2 + i * 5, none⟩ = some (.int .u64 yn) ∧ w'.cell? ⟨b2, off2 + i * 5 + 1, none⟩ = some (.int .u64 ym) ∧ w'.cell? ⟨b2, off2 + i * 5 + 2, none⟩ = some (.slice ysA yss.length ysc) ∧ w'.cell? ⟨b2, off2 + i * 5 + 3, none⟩ = some (.slice ycA ycs.length ycc) ∧ w'.cell? ⟨b2, off2 + i * 5 + 4, none⟩ = some (.slice yvA yvs.length yvc))) (by kernel_rfl) ?_ (fun hHeld => ?_)
                · exact ⟨HBX.out.i1, HBX.out.c4, HR2.out.s0, HR2.out.s1, HR2.out.y0, HR2.out.y1, HR2.out.y2, HR2.out.y3, HR2.out.y4⟩
                refine takeH 0 33 (v := ?q3_v0) rfl rfl (by kernel_rfl) (by kernel_rfl) (by kernel_rfl) (fun _ _ _ h => h) (Or.inl ⟨by rfl, ?q3_h0⟩) (by assumption) ?q3_r0
                case q3_h0 => (intro w hSw; (try dsimp only at hSw); go_simp; try (with_reducible rfl))
                simp only [List.set_cons_zero, List.set_cons_succ]
                refine takeH 1 34 (v := ?q3_v1) rfl rfl (by kernel_rfl) (by kernel_rfl) (by kernel_rfl) (fun _ _ _ h => h) (Or.inl ⟨by rfl, ?q3_h1⟩) (by assumption) ?q3_r1
                case q3_h1 => (intro w hSw; (try dsimp only at hSw); go_simp; try (with_reducible rfl))
                simp only [List.set_cons_zero, List.set_cons_succ]
                refine takeH 2 35 (v := ?q3_v2) rfl rfl (by kernel_rfl) (by kernel_rfl) (by kernel_rfl) (fun _ _ _ h => h) (Or.inl ⟨by rfl, ?q3_h2⟩) (by assumption) ?q3_r2
                case q3_h2 => (intro w hSw; (try dsimp only at hSw); go_simp; try (with_reducible rfl))
                simp only [List.set_cons_zero, List.set_cons_succ]
                refine takeH 3 36 (v := ?q3_v3) rfl rfl (by kernel_rfl) (by kernel_rfl) (by kernel_rfl) (fun _ _ _ h => h) (Or.inl ⟨by rfl, ?q3_h3⟩) (by assumption) ?q3_r3
                case q3_h3 => (intro w hSw; (try dsimp only at hSw); go_simp; try (with_reducible rfl))
                simp only [List.set_cons_zero, List.set_cons_succ]
                refine takeH 4 37 (v := ?q3_v4) rfl rfl (by kernel_rfl) (by kernel_rfl) (by kernel_rfl) (fun _ _ _ h => h) (Or.inl ⟨by rfl, ?q3_h4⟩) (by assumption) ?q3_r4
                case q3_h4 => (intro w hSw; (try dsimp only at hSw); go_simp; try (with_reducible rfl))
                simp only [List.set_cons_zero, List.set_cons_succ]
                refine takeH 5 38 (v := ?q3_v5) rfl rfl (by kernel_rfl) (by kernel_rfl) (by kernel_rfl) (fun _ _ _ h => h) (Or.inl ⟨by rfl, ?q3_h5⟩) (by assumption) ?q3_r5
                case q3_h5 => (intro w hSw; (try dsimp only at hSw); go_simp; try (with_reducible rfl))
                simp only [List.set_cons_zero, List.set_cons_succ]
                refine takeH 6 39 (v := ?q3_v6) rfl rfl (by kernel_rfl) (by kernel_rfl) (by kernel_rfl) (fun _ _ _ h => h) (Or.inl ⟨by rfl, ?q3_h6⟩) (by assumption) ?q3_r6
                case q3_h6 => (intro w hSw; (try dsimp only at hSw); go_simp; try (with_reducible rfl))
                simp only [List.set_cons_zero, List.set_cons_succ]
                refine takeH 7 40 (v := ?q3_v7) rfl rfl (by kernel_rfl) (by kernel_rfl) (by kernel_rfl) (fun _ _ _ h => h) (Or.inl ⟨by rfl, ?q3_h7⟩) (by assumption) ?q3_r7
                case q3_h7 => (intro w hSw; (try dsimp only at hSw); go_simp; try (with_reducible rfl))
                simp only [List.set_cons_zero, List.set_cons_succ]
                refine takeH 8 41 (v := ?q3_v8) rfl rfl (by kernel_rfl) (by kernel_rfl) (by kernel_rfl) (fun _ _ _ h => h) (Or.inl ⟨by rfl, ?q3_h8⟩) (by assumption) ?q3_r8
                case q3_h8 => (intro w hSw; (try dsimp only at hSw); go_simp; try (with_reducible rfl))
                simp only [List.set_cons_zero, List.set_cons_succ]
                refine wpAnyH_ready (rs := [9]) (by kernel_rfl) (by simp) ?_
                refine AllReadyH.cons rfl (fun K hK => ?_) AllReadyH.nil
                go_simp
                go_wp2_with (go_at_call 32; refine (IH.out (.mk yn ym ysA ysc yss ycA ycc ycs yvA yvc yvs) _ HR2.out.ia HR2.out.iy).mono ?_; rintro e w5 ⟨rfl, hb5⟩; (rw [HU1.out]; replace HBX := Lib.hid (HBX.out.later hb5); replace HR2 := Lib.hid (HR2.out.later hb5); clear hb5))
                refine hK.out _ _ ?_ (fun hHeld => ?_)
                · exact ⟨HBX.out.i1, HBX.out.c4, HR2.out.s0, HR2.out.s1, HR2.out.y0, HR2.out.y1, HR2.out.y2, HR2.out.y3, HR2.out.y4⟩
                clear hK K
                refine takeH 10 43 (v := ?q3_v10) rfl rfl (by kernel_rfl) (by kernel_rfl) (by kernel_rfl) (fun _ _ _ h => h) (Or.inl ⟨by rfl, ?q3_h10⟩) (by assumption) ?q3_r10
                case q3_h10 => (intro w hSw; (try dsimp only at hSw); go_simp; try (with_reducible rfl))
                simp only [List.set_cons_zero, List.set_cons_succ]
                refine takeH 11 44 (v := ?q3_v11) rfl rfl (by kernel_rfl) (by kernel_rfl) (by kernel_rfl) (fun _ _ _ h => h) (Or.inl ⟨by rfl, ?q3_h11⟩) (by assumption) ?q3_r11
                case q3_h11 => (intro w hSw; (try dsimp only at hSw); go_simp; try (with_reducible rfl))
                simp only [List.set_cons_zero, List.set_cons_succ]
                refine takeH 12 45 (v := ?q3_v12) rfl rfl (by kernel_rfl) (by kernel_rfl) (by kernel_rfl) (fun _ _ _ h => h) (Or.inl ⟨by rfl, ?q3_h12⟩) (by assumption) ?q3_r12
                case q3_h12 => (intro w hSw; (try dsimp only at hSw); go_simp; try (with_reducible rfl))
                simp only [List.set_cons_zero, List.set_cons_succ]
                refine takeH 13 46 (v := ?q3_v13) rfl rfl (by kernel_rfl) (by kernel_rfl) (by kernel_rfl) (fun _ _ _ h => h) (Or.inl ⟨by rfl, ?q3_h13⟩) (by assumption) ?q3_r13
                case q3_h13 => (intro w hSw; (try dsimp only at hSw); go_simp; try (with_reducible rfl))
                simp only [List.set_cons_zero, List.set_cons_succ]
                refine takeH 14 47 (v := ?q3_v14) rfl rfl (by kernel_rfl) (by kernel_rfl) (by kernel_rfl) (fun _ _ _ h => h) (Or.inl ⟨by rfl, ?q3_h14⟩) (by assumption) ?q3_r14
                case q3_h14 => (intro w hSw; (try dsimp only at hSw); go_simp; try (with_reducible rfl))
                simp only [List.set_cons_zero, List.set_cons_succ]
                refine takeH 15 48 (v := ?q3_v15) rfl rfl (by kernel_rfl) (by kernel_rfl) (by kernel_rfl) (fun _ _ _ h => h) (Or.inl ⟨by rfl, ?q3_h15⟩) (by assumption) ?q3_r15
                case q3_h15 => (intro w hSw; (try dsimp only at hSw); go_simp; try (with_reducible rfl))
                simp only [List.set_cons_zero, List.set_cons_succ]
                refine takeH 16 49 (v := ?q3_v16) rfl rfl (by kernel_rfl) (by kernel_rfl) (by kernel_rfl) (fun _ _ _ h => h) (Or.inl ⟨by rfl, ?q3_h16⟩) (by assumption) ?q3_r16
                case q3_h16 => (intro w hSw; (try dsimp only at hSw); go_simp; try (with_reducible rfl))
                simp only [List.set_cons_zero, List.set_cons_succ]
                refine takeH 17 50 (v := ?q3_v17) rfl rfl (by kernel_rfl) (by kernel_rfl) (by kernel_rfl) (fun _ _ _ h => h) (Or.inl ⟨by rfl, ?q3_h17⟩) (by assumption) ?q3_r17
                case q3_h17 => (intro w hSw; (try dsimp only at hSw); go_simp; try (with_reducible rfl))
                simp only [List.set_cons_zero, List.set_cons_succ]
                refine takeH 18 51 (v := ?q3_v18) rfl rfl (by kernel_rfl) (by kernel_rfl) (by kernel_rfl) (fun _ _ _ h => h) (Or.inl ⟨by rfl, ?q3_h18⟩) (by assumption) ?q3_r18
                case q3_h18 => (intro w hSw; (try dsimp only at hSw); go_simp; try (with_reducible rfl))
                simp only [List.set_cons_zero, List.set_cons_succ]
                refine takeH 19 52 (v := ?q3_v19) rfl rfl (by kernel_rfl) (by kernel_rfl) (by kernel_rfl) (fun _ _ _ h => h) (Or.inl ⟨by rfl, ?q3_h19⟩) (by assumption) ?q3_r19
                case q3_h19 => (intro w hSw; (try dsimp only at hSw); go_simp; try (with_reducible rfl))
                simp only [List.set_cons_zero, List.set_cons_succ]
                refine takeH 20 53 (v := ?q3_v20) rfl rfl (by kernel_rfl) (by kernel_rfl) (by kernel_rfl) (fun _ _ _ h => h) (Or.inl ⟨by rfl, ?q3_h20⟩) (by assumption) ?q3_r20
                case q3_h20 => (intro w hSw; (try dsimp only at hSw); go_simp; try (with_reducible rfl))
                simp only [List.set_cons_zero, List.set_cons_succ]
                refine wpAnyH_ready (rs := [21]) (by kernel_rfl) (by simp) ?_
                refine AllReadyH.cons rfl (fun K hK => ?_) AllReadyH.nil
                go_simp
                go_wp2_with (go_at_call 22; refine (refNone_any (.mk ak aA ac al) (.mk yn ym ysA ysc yss ycA ycc ycs yvA yvc yvs) _ HR2.out.ia HR2.out.iy).mono ?_; rintro e w6 ⟨rfl, hb5⟩; (rw [HU2.out]; replace HBX := Lib.hid (HBX.out.later hb5); replace HR2 := Lib.hid (HR2.out.later hb5); clear hb5))
                refine hK.out _ _ ?_ (fun hHeld => ?_)
                · exact ⟨HBX.out.i1, HBX.out.c4, HR2.out.s0, HR2.out.s1, HR2.out.y0, HR2.out.y1, HR2.out.y2, HR2.out.y3, HR2.out.y4⟩
                clear hK K
                refine takeH 22 55 (v := ?q3_v22) rfl rfl (by kernel_rfl) (by kernel_rfl) (by kernel_rfl) (fun _ _ _ h => h) (Or.inl ⟨by rfl, ?q3_h22⟩) (by assumption) ?q3_r22
                case q3_h22 => (intro w hSw; (try dsimp only at hSw); go_simp; try (with_reducible rfl))
                simp only [List.set_cons_zero, List.set_cons_succ]
                refine wpAnyH_done (by kernel_rfl) ?_ _
                refine NoPanic.normal ?_
                go_wp2_with fail
                go_roundw
                case rel => exact ⟨i + 1, by omega, by go_num, all_succ h0.out (map_at (f := Vl.er) HY.out) HPQ.out, HBX⟩
                case measure => simp [intOf]; omega
          · have HFA : Hid (mapV p (botT a.er) (Vl.mk n m sA sc ss cA cc cs vA vc vs).er.v = true) := by
              show mapV _ _ _ = true
              rw [er_mk]
              exact all_end h0.out (by show (List.map Vl.er vs).length ≤ i; rw [List.length_map]; omega)
            go_wp2_with fail
            go_ret
            exact ⟨ret_bool (by rw [HFA.out]; rfl), HBX.out.bel⟩

set_option maxRecDepth 100000 in
set_option maxHeartbeats 4000000 in
theorem refIsV_5 (A : Option Addr) (c : Nat) (a a' : Sc) (x : Vl) (w : World) (hs : (Sc.mk 5 A c [a, a']).In w.heap.size w) (hx : x.In w) (p p' : Va → Bool) (ih : ∀ (y : Vl) (w : World), a.In w.heap.size w → y.In w → Calls Tryz.prog 32 #[a.val, y.val] w (RetV w (.bool (p y.er)))) (ih2 : ∀ (y : Vl) (w : World), a'.In w.heap.size w → y.In w → Calls Tryz.prog 32 #[a'.val, y.val] w (RetV w (.bool (p' y.er)))) : Calls Tryz.prog 32 #[(Sc.mk 5 A c [a, a']).val, x.val] w (RetV w (.bool (baseV 5 x.er && pairV p p' x.er.v))) := by
  obtain ⟨n, m, sA, sc, ss, cA, cc, cs, vA, vc, vs⟩ := x
  have HS := Lib.hid hs
  have IH := Lib.hid ih
  have IH2 := Lib.hid ih2
  clear hs ih ih2
  have HB0 : Hid (Below w.heap.size w ((w.alloc (.cells #[.int .i64 5, .slice A 2 c] 24)).alloc (.cells #[.int .u64 n, .int .u64 m, .slice sA ss.length sc, .slice cA cs.length cc, .slice vA vs.length vc] 32))) := belAl (allocB _ _)
  have HX := Lib.hid (hx.later HB0.out)
  have P := hx.out
  have HP := Lib.hid P
  have HSB : Hid (ss.length ≤ maxLen) := Nat.le_trans P.sb.1 P.sb.2.1
  have hsm : ss.length ≤ 9223372036854775807 := by have := P.sb; unfold maxLen at this; omega
  have hcm : cs.length ≤ 9223372036854775807 := by have := P.cb; unfold maxLen at this; omega
  have hvm : vs.length ≤ 9223372036854775807 := by have := P.vb; unfold maxLen at this; omega
  obtain ⟨t, ht⟩ : ∃ z, fitsV 5 (Vl.mk n m sA sc ss cA cc cs vA vc vs).er = z := ⟨_, rfl⟩
  obtain ⟨u, hu⟩ : ∃ z, decide (R1.Srt ss) = z := ⟨_, rfl⟩
  obtain ⟨q, hq⟩ : ∃ z, decide (ss.length ≤ 40) = z := ⟨_, rfl⟩
  have HF : Hid (baseV 5 (Vl.mk n m sA sc ss cA cc cs vA vc vs).er = (t && (u && q))) := by
    show baseV _ _ = _
    unfold baseV
    rw [ht, er_mk, show (Va.mk n m ss (cs.map Ck.l) (vs.map Vl.er)).s = ss from rfl, hu, hq]
  have HT := Lib.hid ht
  have HU := Lib.hid hu
  have HQ := Lib.hid hq
  rw [HF.out]
  clear hx P ht hu hq HF
  simp only [S2.val_mk, val_mk, List.length_nil, List.length_cons, Nat.zero_add, Nat.reduceAdd]
  go_enter Tryz.func32, Tryz.ntmps32
  go_wp2_with fail
  refine (refFits_at 5 A c 2 n m sA sc ss cA cc cs vA vc vs t _ HX.out HT.out).mono ?_
  rintro e w1 ⟨rfl, hb1⟩
  have HBX : Hid (Boxes w 5 A 2 c n m sA ss.length sc cA cs.length cc vA vs.length vc w1) := Boxes.later ⟨by go_simp, by go_simp, by go_simp, by go_simp, by go_simp, by go_simp, by go_simp, by simp, HB0.out⟩ hb1
  clear hb1 HB0 HX
  cases t with
  | false =>
    go_wp2_with fail
    go_ret
    exact ⟨rfl, HBX.out.bel⟩
  | true =>
    have c2 := HBX.out.c2
    go_wp2_with fail
    refine (refRises_at sA sc ss u _ (HP.out.sl.below HBX.out.bel) HSB.out HU.out).mono ?_
    rintro e w2 ⟨rfl, hb2⟩
    replace HBX := Lib.hid (HBX.out.later hb2)
    clear hb2 c2
    cases u with
    | false =>
      go_wp2_with fail
      go_ret
      exact ⟨rfl, HBX.out.bel⟩
    | true =>
      have c2 := HBX.out.c2
      have i0 := HBX.out.i0
      cases q with
      | false =>
        have dq : 40 < ss.length := by have := of_decide_eq_false HQ.out; omega
        go_wp2_with fail
        go_ret
        exact ⟨rfl, HBX.out.bel⟩
      | true =>
        have dq : decide (40 < (ss.length : Int)) = false := decide_eq_false (by have := of_decide_eq_true HQ.out; omega)
        have hv2 : vs.length = 2 := by
          have h := HT.out
          rw [er_mk, fits_5, Bool.and_eq_true] at h
          have := of_decide_eq_true h.2
          rwa [List.length_map] at this
        obtain ⟨y, z, rfl⟩ := two_of_len hv2
        obtain ⟨hl0, -, -, hall⟩ := HS.out.out
        obtain ⟨b, off, rfl, hb, hcl⟩ := (hl0.below HBX.out.bel).get (k := 0) (by simp)
        obtain ⟨g0, g1⟩ := hcl 0 a rfl
        obtain ⟨g2, g3⟩ := hcl 1 a' rfl
        obtain ⟨b2, off2, rfl, hb2, hy0, hy1, hy2, hy3, hy4⟩ := value_at (HP.out.vl.below HBX.out.bel) (k := 0) (x := y) rfl
        obtain ⟨b3, off3, he3, hb3, hz0, hz1, hz2, hz3, hz4⟩ := value_at (HP.out.vl.below HBX.out.bel) (k := 1) (x := z) rfl
        obtain ⟨rfl, rfl⟩ : b2 = b3 ∧ off2 = off3 := by cases he3; exact ⟨rfl, rfl⟩
        simp only [Nat.zero_mul, Nat.add_zero, Nat.one_mul] at g0 g1 g2 g3 hy0 hy1 hy2 hy3 hy4 hz0 hz1 hz2 hz3 hz4
        have l1 : b < w2.heap.size := Nat.lt_of_lt_of_le hb HBX.out.bel.size
        have l2 : b2 < w2.heap.size := Nat.lt_of_lt_of_le hb2 HBX.out.bel.size
        have HR2 : Hid (Row2 b off a b2 off2 y w2.drew) := Row2.later ⟨g0, g1, hy0, hy1, hy2, hy3, hy4, l1, l2, ((hall a (by simp)).keep HBX.out.bel).up HBX.out.bel.size, (HP.out.vk y (by simp)).later HBX.out.bel⟩ (drewB w2)
        have HR3 : Hid (Row2 b (off + 2) a' b2 (off2 + 5) z w2.drew) := Row2.later ⟨g2, g3, hz0, hz1, hz2, hz3, hz4, l1, l2, ((hall a' (by simp)).keep HBX.out.bel).up HBX.out.bel.size, (HP.out.vk z (by simp)).later HBX.out.bel⟩ (drewB w2)
        obtain ⟨u1, hu1⟩ : ∃ v, p y.er = v := ⟨_, rfl⟩
        obtain ⟨u2, hu2⟩ : ∃ v, p' z.er = v := ⟨_, rfl⟩
        have HFA : Hid (pairV p p' (Vl.mk n m sA sc ss cA cc cs (some ⟨b2, off2, none⟩) vc [y, z]).er.v = (u1 && u2)) := by
          show pairV _ _ _ = _
          rw [er_mk, ← hu1, ← hu2]
          rfl
        have HU1 := Lib.hid hu1
        have HU2 := Lib.hid hu2
        clear hl0 hall hcl g0 g1 g2 g3 he3 hy0 hy1 hy2 hy3 hy4 hz0 hz1 hz2 hz3 hz4 hu1 hu2 hv2 hvm HP HT l1 l2 HS
        obtain ⟨ak, aA, ac, al⟩ := a
        obtain ⟨dk, dA, dc, dl⟩ := a'
        obtain ⟨yn, ym, ysA, ysc, yss, ycA, ycc, ycs, yvA, yvc, yvs⟩ := y
        obtain ⟨zn, zm, zsA, zsc, zss, zcA, zcc, zcs, zvA, zvc, zvs⟩ := z
        simp only [S2.val_mk] at IH IH2
        cases u1 with
        | false =>
          go_wp2_with fail
          replace HBX := Lib.hid (HBX.out.later (drewB w2))
          refine wp_region_noPanic ?_
          refine wp_region_held_drew (S := (fun w' => w'.cell? ⟨w.heap.size, 1, none⟩ = some (.slice (some ⟨b, off, none⟩) 2 c) ∧ w'.cell? ⟨w.heap.size + 1, 4, none⟩ = some (.slice (some ⟨b2, off2, none⟩) 2 vc) ∧ w'.cell? ⟨b, off, none⟩ = some (.int .i64 ak) ∧ w'.cell? ⟨b, off + 1, none⟩ = some (.slice aA al.length ac) ∧ w'.cell? ⟨b2, off2, none⟩ = some (.int .u64 yn) ∧ w'.cell? ⟨b2, off2 + 1, none⟩ = some (.int .u64 ym) ∧ w'.cell? ⟨b2, off2 + 2, none⟩ = some (.slice ysA yss.length ysc) ∧ w'.cell? ⟨b2, off2 + 3, none⟩ = some (.slice ycA ycs.length ycc) ∧ w'.cell? ⟨b2, off2 + 4, none⟩ = some (.slice yvA yvs.length yvc) ∧ w'.cell? ⟨b, off + 2, none⟩ = some (.int .i64 dk) ∧ w'.cell? ⟨b, off + 2 + 1, none⟩ = some (.slice dA dl.length dc) ∧ w'.cell? ⟨b2, off2 + 5, none⟩ = some (.int .u64 zn) ∧ w'.cell? ⟨b2, off2 + 5 + 1, none⟩ = some (.int .u64 zm) ∧ w'.cell? ⟨b2, off2 + 5 + 2, none⟩ = some (.slice zsA zss.length zsc) ∧ w'.cell? ⟨b2, off2 + 5 + 3, none⟩ = some (.slice zcA zcs.length zcc) ∧ w'.cell? ⟨b2, off2 + 5 + 4, none⟩ = some (.slice zvA zvs.length zvc))) (by kernel_rfl) ?_ (fun hHeld => ?_)
          · exact ⟨HBX.out.i1, HBX.out.c4, HR2.out.s0, HR2.out.s1, HR2.out.y0, HR2.out.y1, HR2.out.y2, HR2.out.y3, HR2.out.y4, HR3.out.s0, HR3.out.s1, HR3.out.y0, HR3.out.y1, HR3.out.y2, HR3.out.y3, HR3.out.y4⟩
          refine takeH 0 58 (v := ?q4_v0) rfl rfl (by kernel_rfl) (by kernel_rfl) (by kernel_rfl) (fun _ _ _ h => h) (Or.inl ⟨by rfl, ?q4_h0⟩) (by assumption) ?q4_r0
          case q4_h0 => (intro w hSw; (try dsimp only at hSw); go_simp; try (with_reducible rfl))
          simp only [List.set_cons_zero, List.set_cons_succ]
          refine takeH 1 59 (v := ?q4_v1) rfl rfl (by kernel_rfl) (by kernel_rfl) (by kernel_rfl) (fun _ _ _ h => h) (Or.inl ⟨by rfl, ?q4_h1⟩) (by assumption) ?q4_r1
          case q4_h1 => (intro w hSw; (try dsimp only at hSw); go_simp; try (with_reducible rfl))
          simp only [List.set_cons_zero, List.set_cons_succ]
          refine takeH 2 60 (v := ?q4_v2) rfl rfl (by kernel_rfl) (by kernel_rfl) (by kernel_rfl) (fun _ _ _ h => h) (Or.inl ⟨by rfl, ?q4_h2⟩) (by assumption) ?q4_r2
          case q4_h2 => (intro w hSw; (try dsimp only at hSw); go_simp; try (with_reducible rfl))
          simp only [List.set_cons_zero, List.set_cons_succ]
          refine takeH 3 61 (v := ?q4_v3) rfl rfl (by kernel_rfl) (by kernel_rfl) (by kernel_rfl) (fun _ _ _ h => h) (Or.inl ⟨by rfl, ?q4_h3⟩) (by assumption) ?q4_r3
          case q4_h3 => (intro w hSw; (try dsimp only at hSw); go_simp; try (with_reducible rfl))
          simp only [List.set_cons_zero, List.set_cons_succ]
          refine takeH 4 62 (v := ?q4_v4) rfl rfl (by kernel_rfl) (by kernel_rfl) (by kernel_rfl) (fun _ _ _ h => h) (Or.inl ⟨by rfl, ?q4_h4⟩) (by assumption) ?q4_r4
          case q4_h4 => (intro w hSw; (try dsimp only at hSw); go_simp; try (with_reducible rfl))
          simp only [List.set_cons_zero, List.set_cons_succ]
          refine takeH 5 63 (v := ?q4_v5) rfl rfl (by kernel_rfl) (by kernel_rfl) (by kernel_rfl) (fun _ _ _ h => h) (Or.inl ⟨by rfl, ?q4_h5⟩) (by assumption) ?q4_r5
          case q4_h5 => (intro w hSw; (try dsimp only at hSw); go_simp; try (with_reducible rfl))
          simp only [List.set_cons_zero, List.set_cons_succ]
          refine takeH 6 64 (v := ?q4_v6) rfl rfl (by kernel_rfl) (by kernel_rfl) (by kernel_rfl) (fun _ _ _ h => h) (Or.inl ⟨by rfl, ?q4_h6⟩) (by assumption) ?q4_r6
          case q4_h6 => (intro w hSw; (try dsimp only at hSw); go_simp; try (with_reducible rfl))
          simp only [List.set_cons_zero, List.set_cons_succ]
          refine takeH 7 65 (v := ?q4_v7) rfl rfl (by kernel_rfl) (by kernel_rfl) (by kernel_rfl) (fun _ _ _ h => h) (Or.inl ⟨by rfl, ?q4_h7⟩) (by assumption) ?q4_r7
          case q4_h7 => (intro w hSw; (try dsimp only at hSw); go_simp; try (with_reducible rfl))
          simp only [List.set_cons_zero, List.set_cons_succ]
          refine wpAnyH_ready (rs := [8]) (by kernel_rfl) (by simp) ?_
          refine AllReadyH.cons rfl (fun K hK => ?_) AllReadyH.nil
          go_simp
          go_wp2_with (go_at_call 32; refine (IH.out (.mk yn ym ysA ysc yss ycA ycc ycs yvA yvc yvs) _ HR2.out.ia HR2.out.iy).mono ?_; rintro e w5 ⟨rfl, hb5⟩; (rw [HU1.out]; replace HBX := Lib.hid (HBX.out.later hb5); replace HR2 := Lib.hid (HR2.out.later hb5); replace HR3 := Lib.hid (HR3.out.later hb5); clear hb5))
          refine hK.out _ _ ?_ (fun hHeld => ?_)
          · exact ⟨HBX.out.i1, HBX.out.c4, HR2.out.s0, HR2.out.s1, HR2.out.y0, HR2.out.y1, HR2.out.y2, HR2.out.y3, HR2.out.y4, HR3.out.s0, HR3.out.s1, HR3.out.y0, HR3.out.y1, HR3.out.y2, HR3.out.y3, HR3.out.y4⟩
          clear hK K
          refine takeH 9 67 (v := ?q4_v9) rfl rfl (by kernel_rfl) (by kernel_rfl) (by kernel_rfl) (fun _ _ _ h => h) (Or.inl ⟨by rfl, ?q4_h9⟩) (by assumption) ?q4_r9
          case q4_h9 => (intro w hSw; (try dsimp only at hSw); go_simp; try (with_reducible rfl))
          simp only [List.set_cons_zero, List.set_cons_succ]
          refine takeH 10 68 (v := undef) rfl rfl (by kernel_rfl) (by kernel_rfl) (by kernel_rfl) (fun _ _ _ h => h) (Or.inr ⟨by rfl, rfl⟩) (by assumption) ?_
          simp only [List.set_cons_zero, List.set_cons_succ]
          refine takeH 11 69 (v := undef) rfl rfl (by kernel_rfl) (by kernel_rfl) (by kernel_rfl) (fun _ _ _ h => h) (Or.inr ⟨by rfl, rfl⟩) (by assumption) ?_
          simp only [List.set_cons_zero, List.set_cons_succ]
          refine takeH 12 70 (v := undef) rfl rfl (by kernel_rfl) (by kernel_rfl) (by kernel_rfl) (fun _ _ _ h => h) (Or.inr ⟨by rfl, rfl⟩) (by assumption) ?_
          simp only [List.set_cons_zero, List.set_cons_succ]
          refine takeH 13 71 (v := undef) rfl rfl (by kernel_rfl) (by kernel_rfl) (by kernel_rfl) (fun _ _ _ h => h) (Or.inr ⟨by rfl, rfl⟩) (by assumption) ?_
          simp only [List.set_cons_zero, List.set_cons_succ]
          refine takeH 14 72 (v := undef) rfl rfl (by kernel_rfl) (by kernel_rfl) (by kernel_rfl) (fun _ _ _ h => h) (Or.inr ⟨by rfl, rfl⟩) (by assumption) ?_
          simp only [List.set_cons_zero, List.set_cons_succ]
          refine takeH 15 73 (v := undef) rfl rfl (by kernel_rfl) (by kernel_rfl) (by kernel_rfl) (fun _ _ _ h => h) (Or.inr ⟨by rfl, rfl⟩) (by assumption) ?_
          simp only [List.set_cons_zero, List.set_cons_succ]
          refine takeH 16 74 (v := undef) rfl rfl (by kernel_rfl) (by kernel_rfl) (by kernel_rfl) (fun _ _ _ h => h) (Or.inr ⟨by rfl, rfl⟩) (by assumption) ?_
          simp only [List.set_cons_zero, List.set_cons_succ]
          refine takeH 17 75 (v := undef) rfl rfl (by kernel_rfl) (by kernel_rfl) (by kernel_rfl) (fun _ _ _ h => h) (Or.inr ⟨by rfl, rfl⟩) (by assumption) ?_
          simp only [List.set_cons_zero, List.set_cons_succ]
          refine takeH 18 76 (v := undef) rfl rfl (by kernel_rfl) (by kernel_rfl) (by kernel_rfl) (fun _ _ _ h => h) (Or.inr ⟨by rfl, rfl⟩) (by assumption) ?_
          simp only [List.set_cons_zero, List.set_cons_succ]
          refine takeH 19 77 (v := ?q4_v19) rfl rfl (by kernel_rfl) (by kernel_rfl) (by kernel_rfl) (fun _ _ _ h => h) (Or.inl ⟨by rfl, ?q4_h19⟩) (by assumption) ?q4_r19
          case q4_h19 => (intro w hSw; (try dsimp only at hSw); go_simp; try (with_reducible rfl))
          simp only [List.set_cons_zero, List.set_cons_succ]
          refine takeH 20 4 (v := ?q4_v20) rfl rfl (by kernel_rfl) (by kernel_rfl) (by kernel_rfl) (fun _ _ _ h => h) (Or.inl ⟨by rfl, ?q4_h20⟩) (by assumption) ?q4_r20
          case q4_h20 => (intro w hSw; (try dsimp only at hSw); go_simp; try (with_reducible rfl))
          simp only [List.set_cons_zero, List.set_cons_succ]
          refine wpAnyH_done (by kernel_rfl) ?_ _
          refine NoPanic.normal ?_
          go_wp2_with fail
          go_ret
          exact ⟨ret_bool (by rw [HFA.out]; rfl), HBX.out.bel⟩
        | true =>
          go_wp2_with fail
          replace HBX := Lib.hid (HBX.out.later (drewB w2))
          refine wp_region_noPanic ?_
          refine wp_region_held_drew (S := (fun w' => w'.cell? ⟨w.heap.size, 1, none⟩ = some (.slice (some ⟨b, off, none⟩) 2 c) ∧ w'.cell? ⟨w.heap.size + 1, 4, none⟩ = some (.slice (some ⟨b2, off2, none⟩) 2 vc) ∧ w'.cell? ⟨b, off, none⟩ = some (.int .i64 ak) ∧ w'.cell? ⟨b, off + 1, none⟩ = some (.slice aA al.length ac) ∧ w'.cell? ⟨b2, off2, none⟩ = some (.int .u64 yn) ∧ w'.cell? ⟨b2, off2 + 1, none⟩ = some (.int .u64 ym) ∧ w'.cell? ⟨b2, off2 + 2, none⟩ = some (.slice ysA yss.length ysc) ∧ w'.cell? ⟨b2, off2 + 3, none⟩ = some (.slice ycA ycs.length ycc) ∧ w'.cell? ⟨b2, off2 + 4, none⟩ = some (.slice yvA yvs.length yvc) ∧ w'.cell? ⟨b, off + 2, none⟩ = some (.int .i64 dk) ∧ w'.cell? ⟨b, off + 2 + 1, none⟩ = some (.slice dA dl.length dc) ∧ w'.cell? ⟨b2, off2 + 5, none⟩ = some (.int .u64 zn) ∧ w'.cell? ⟨b2, off2 + 5 + 1, none⟩ = some (.int .u64 zm) ∧ w'.cell? ⟨b2, off2 + 5 + 2, none⟩ = some (.slice zsA zss.length zsc) ∧ w'.cell? ⟨b2, off2 + 5 + 3, none⟩ = some (.slice zcA zcs.length zcc) ∧ w'.cell? ⟨b2, off2 + 5 + 4, none⟩ = some (.slice zvA zvs.length zvc))) (by kernel_rfl) ?_ (fun hHeld => ?_)
          · exact ⟨HBX.out.i1, HBX.out.c4, HR2.out.s0, HR2.out.s1, HR2.out.y0, HR2.out.y1, HR2.out.y2, HR2.out.y3, HR2.out.y4, HR3.out.s0, HR3.out.s1, HR3.out.y0, HR3.out.y1, HR3.out.y2, HR3.out.y3, HR3.out.y4⟩
          refine takeH 0 58 (v := ?q5_v0) rfl rfl (by kernel_rfl) (by kernel_rfl) (by kernel_rfl) (fun _ _ _ h => h) (Or.inl ⟨by rfl, ?q5_h0⟩) (by assumption) ?q5_r0
          case q5_h0 => (intro w hSw; (try dsimp only at hSw); go_simp; try (with_reducible rfl))
          simp only [List.set_cons_zero, List.set_cons_succ]
          refine takeH 1 59 (v := ?q5_v1) rfl rfl (by kernel_rfl) (by kernel_rfl) (by kernel_rfl) (fun _ _ _ h => h) (Or.inl ⟨by rfl, ?q5_h1⟩) (by assumption) ?q5_r1
          case q5_h1 => (intro w hSw; (try dsimp only at hSw); go_simp; try (with_reducible rfl))
          simp only [List.set_cons_zero, List.set_cons_succ]
          refine takeH 2 60 (v := ?q5_v2) rfl rfl (by kernel_rfl) (by kernel_rfl) (by kernel_rfl) (fun _ _ _ h => h) (Or.inl ⟨by rfl, ?q5_h2⟩) (by assumption) ?q5_r2
          case q5_h2 => (intro w hSw; (try dsimp only at hSw); go_simp; try (with_reducible rfl))
          simp only [List.set_cons_zero, List.set_cons_succ]
          refine takeH 3 61 (v := ?q5_v3) rfl rfl (by kernel_rfl) (by kernel_rfl) (by kernel_rfl) (fun _ _ _ h => h) (Or.inl ⟨by rfl, ?q5_h3⟩) (by assumption) ?q5_r3
          case q5_h3 => (intro w hSw; (try dsimp only at hSw); go_simp; try (with_reducible rfl))
          simp only [List.set_cons_zero, List.set_cons_succ]
          refine takeH 4 62 (v := ?q5_v4) rfl rfl (by kernel_rfl) (by kernel_rfl) (by kernel_rfl) (fun _ _ _ h => h) (Or.inl ⟨by rfl, ?q5_h4⟩) (by assumption) ?q5_r4
          case q5_h4 => (intro w hSw; (try dsimp only at hSw); go_simp; try (with_reducible rfl))
          simp only [List.set_cons_zero, List.set_cons_succ]
          refine takeH 5 63 (v := ?q5_v5) rfl rfl (by kernel_rfl) (by kernel_rfl) (by kernel_rfl) (fun _ _ _ h => h) (Or.inl ⟨by rfl, ?q5_h5⟩) (by assumption) ?q5_r5
          case q5_h5 => (intro w hSw; (try dsimp only at hSw); go_simp; try (with_reducible rfl))
          simp only [List.set_cons_zero, List.set_cons_succ]
          refine takeH 6 64 (v := ?q5_v6) rfl rfl (by kernel_rfl) (by kernel_rfl) (by kernel_rfl) (fun _ _ _ h => h) (Or.inl ⟨by rfl, ?q5_h6⟩) (by assumption) ?q5_r6
          case q5_h6 => (intro w hSw; (try dsimp only at hSw); go_simp; try (with_reducible rfl))
          simp only [List.set_cons_zero, List.set_cons_succ]
          refine takeH 7 65 (v := ?q5_v7) rfl rfl (by kernel_rfl) (by kernel_rfl) (by kernel_rfl) (fun _ _ _ h => h) (Or.inl ⟨by rfl, ?q5_h7⟩) (by assumption) ?q5_r7
          case q5_h7 => (intro w hSw; (try dsimp only at hSw); go_simp; try (with_reducible rfl))
          simp only [List.set_cons_zero, List.set_cons_succ]
          refine wpAnyH_ready (rs := [8]) (by kernel_rfl) (by simp) ?_
          refine AllReadyH.cons rfl (fun K hK => ?_) AllReadyH.nil
          go_simp
          go_wp2_with (go_at_call 32; refine (IH.out (.mk yn ym ysA ysc yss ycA ycc ycs yvA yvc yvs) _ HR2.out.ia HR2.out.iy).mono ?_; rintro e w5 ⟨rfl, hb5⟩; (rw [HU1.out]; replace HBX := Lib.hid (HBX.out.later hb5); replace HR2 := Lib.hid (HR2.out.later hb5); replace HR3 := Lib.hid (HR3.out.later hb5); clear hb5))
          refine hK.out _ _ ?_ (fun hHeld => ?_)
          · exact ⟨HBX.out.i1, HBX.out.c4, HR2.out.s0, HR2.out.s1, HR2.out.y0, HR2.out.y1, HR2.out.y2, HR2.out.y3, HR2.out.y4, HR3.out.s0, HR3.out.s1, HR3.out.y0, HR3.out.y1, HR3.out.y2, HR3.out.y3, HR3.out.y4⟩
          clear hK K
          refine takeH 9 67 (v := ?q5_v9) rfl rfl (by kernel_rfl) (by kernel_rfl) (by kernel_rfl) (fun _ _ _ h => h) (Or.inl ⟨by rfl, ?q5_h9⟩) (by assumption) ?q5_r9
          case q5_h9 => (intro w hSw; (try dsimp only at hSw); go_simp; try (with_reducible rfl))
          simp only [List.set_cons_zero, List.set_cons_succ]
          refine takeH 10 68 (v := ?q5_v10) rfl rfl (by kernel_rfl) (by kernel_rfl) (by kernel_rfl) (fun _ _ _ h => h) (Or.inl ⟨by rfl, ?q5_h10⟩) (by assumption) ?q5_r10
          case q5_h10 => (intro w hSw; (try dsimp only at hSw); go_simp; try (with_reducible rfl))
          simp only [List.set_cons_zero, List.set_cons_succ]
          refine takeH 11 69 (v := ?q5_v11) rfl rfl (by kernel_rfl) (by kernel_rfl) (by kernel_rfl) (fun _ _ _ h => h) (Or.inl ⟨by rfl, ?q5_h11⟩) (by assumption) ?q5_r11
          case q5_h11 => (intro w hSw; (try dsimp only at hSw); go_simp; try (with_reducible rfl))
          simp only [List.set_cons_zero, List.set_cons_succ]
          refine takeH 12 70 (v := ?q5_v12) rfl rfl (by kernel_rfl) (by kernel_rfl) (by kernel_rfl) (fun _ _ _ h => h) (Or.inl ⟨by rfl, ?q5_h12⟩) (by assumption) ?q5_r12
          case q5_h12 => (intro w hSw; (try dsimp only at hSw); go_simp; try (with_reducible rfl))
          simp only [List.set_cons_zero, List.set_cons_succ]
          refine takeH 13 71 (v := ?q5_v13) rfl rfl (by kernel_rfl) (by kernel_rfl) (by kernel_rfl) (fun _ _ _ h => h) (Or.inl ⟨by rfl, ?q5_h13⟩) (by assumption) ?q5_r13
          case q5_h13 => (intro w hSw; (try dsimp only at hSw); go_simp; try (with_reducible rfl))
          simp only [List.set_cons_zero, List.set_cons_succ]
          refine takeH 14 72 (v := ?q5_v14) rfl rfl (by kernel_rfl) (by kernel_rfl) (by kernel_rfl) (fun _ _ _ h => h) (Or.inl ⟨by rfl, ?q5_h14⟩) (by assumption) ?q5_r14
          case q5_h14 => (intro w hSw; (try dsimp only at hSw); go_simp; try (with_reducible rfl))
          simp only [List.set_cons_zero, List.set_cons_succ]
          refine takeH 15 73 (v := ?q5_v15) rfl rfl (by kernel_rfl) (by kernel_rfl) (by kernel_rfl) (fun _ _ _ h => h) (Or.inl ⟨by rfl, ?q5_h15⟩) (by assumption) ?q5_r15
          case q5_h15 => (intro w hSw; (try dsimp only at hSw); go_simp; try (with_reducible rfl))
          simp only [List.set_cons_zero, List.set_cons_succ]
          refine takeH 16 74 (v := ?q5_v16) rfl rfl (by kernel_rfl) (by kernel_rfl) (by kernel_rfl) (fun _ _ _ h => h) (Or.inl ⟨by rfl, ?q5_h16⟩) (by assumption) ?q5_r16
          case q5_h16 => (intro w hSw; (try dsimp only at hSw); go_simp; try (with_reducible rfl))
          simp only [List.set_cons_zero, List.set_cons_succ]
          refine takeH 17 75 (v := ?q5_v17) rfl rfl (by kernel_rfl) (by kernel_rfl) (by kernel_rfl) (fun _ _ _ h => h) (Or.inl ⟨by rfl, ?q5_h17⟩) (by assumption) ?q5_r17
          case q5_h17 => (intro w hSw; (try dsimp only at hSw); go_simp; try (with_reducible rfl))
          simp only [List.set_cons_zero, List.set_cons_succ]
          refine wpAnyH_ready (rs := [18]) (by kernel_rfl) (by simp) ?_
          refine AllReadyH.cons rfl (fun K hK => ?_) AllReadyH.nil
          go_simp
          go_wp2_with (go_at_call 32; refine (IH2.out (.mk zn zm zsA zsc zss zcA zcc zcs zvA zvc zvs) _ HR3.out.ia HR3.out.iy).mono ?_; rintro e w6 ⟨rfl, hb5⟩; (rw [HU2.out]; replace HBX := Lib.hid (HBX.out.later hb5); replace HR2 := Lib.hid (HR2.out.later hb5); replace HR3 := Lib.hid (HR3.out.later hb5); clear hb5))
          refine hK.out _ _ ?_ (fun hHeld => ?_)
          · exact ⟨HBX.out.i1, HBX.out.c4, HR2.out.s0, HR2.out.s1, HR2.out.y0, HR2.out.y1, HR2.out.y2, HR2.out.y3, HR2.out.y4, HR3.out.s0, HR3.out.s1, HR3.out.y0, HR3.out.y1, HR3.out.y2, HR3.out.y3, HR3.out.y4⟩
          clear hK K
          refine takeH 19 77 (v := ?q5_v19) rfl rfl (by kernel_rfl) (by kernel_rfl) (by kernel_rfl) (fun _ _ _ h => h) (Or.inl ⟨by rfl, ?q5_h19⟩) (by assumption) ?q5_r19
          case q5_h19 => (intro w hSw; (try dsimp only at hSw); go_simp; try (with_reducible rfl))
          simp only [List.set_cons_zero, List.set_cons_succ]
          refine takeH 20 4 (v := ?q5_v20) rfl rfl (by kernel_rfl) (by kernel_rfl) (by kernel_rfl) (fun _ _ _ h => h) (Or.inl ⟨by rfl, ?q5_h20⟩) (by assumption) ?q5_r20
          case q5_h20 => (intro w hSw; (try dsimp only at hSw); go_simp; try (with_reducible rfl))
          simp only [List.set_cons_zero, List.set_cons_succ]
          refine wpAnyH_done (by kernel_rfl) ?_ _
          refine NoPanic.normal ?_
          go_wp2_with fail
          go_ret
          exact ⟨ret_bool (by rw [HFA.out]; rfl), HBX.out.bel⟩

theorem refIsV_any : ∀ (s : Sc) (n : Nat), isT n s.er = true → ∀ (x : Vl) (w : World), s.In w.heap.size w → x.In w → Calls Tryz.prog 32 #[s.val, x.val] w (RetV w (.bool (isV s.er x.er))) := by
  intro s
  induction s using S2.Sc.ind with
  | h k A c l ih =>
    intro n hn x w hs hx
    have hlen := isT_len (n := n) (k := k) (l := l.map Sc.er) (by rw [← S2.er_mk k A c]; exact hn)
    rw [List.length_map] at hlen
    have hins : ∀ a ∈ l, ∃ m, isT m a.er = true := by
      intro a ha
      cases n with
      | zero => simp [isT] at hn
      | succ n =>
        rw [S2.er_mk] at hn
        exact ⟨n, isT_ins hn _ (List.mem_map.2 ⟨a, ha, rfl⟩)⟩
    rw [S2.er_mk]
    by_cases h0 : k = 1 ∨ k = 2 ∨ k = 3 ∨ k = 6 ∨ k = 7
    · have hl : l = [] := by
        apply List.eq_nil_of_length_eq_zero
        unfold S2.arI at hlen
        rw [if_pos h0] at hlen
        omega
      subst hl
      rw [List.map_nil, isV]
      rcases h0 with rfl | rfl | rfl | rfl | rfl
      · rw [if_neg (by decide)]; exact refIsV_1 A c x w hx
      · rw [if_neg (by decide)]; exact refIsV_2 A c x w hx
      · rw [if_neg (by decide)]; exact refIsV_3 A c x w hx
      · rw [if_neg (by decide)]; exact refIsV_6 A c x w hx
      · rw [if_pos rfl]; exact refIsV_7 A c x w hx
    · by_cases h1 : k = 4 ∨ k = 8
      · have hl : l.length = 1 := by
          unfold S2.arI at hlen
          rw [if_neg h0, if_pos h1] at hlen
          omega
        obtain ⟨a, rfl⟩ := List.length_eq_one_iff.1 hl
        obtain ⟨m, hm⟩ := hins a (by simp)
        have iha := ih a (by simp) m hm
        rw [List.map_cons, List.map_nil, isV]
        rcases h1 with rfl | rfl
        · rw [if_pos rfl]; exact refIsV_4 A c a x w hs hx (isV a.er) fun y w h1 h2 => iha y w h1 h2
        · rw [if_neg (by decide)]; exact refIsV_8 A c a x w hs hx (isV a.er) fun y w h1 h2 => iha y w h1 h2
      · by_cases h2 : k = 5
        · subst h2
          have hl : l.length = 2 := by
            unfold S2.arI at hlen
            rw [if_neg h0, if_neg h1, if_pos rfl] at hlen
            omega
          obtain ⟨a, a', rfl⟩ := two_of_len hl
          obtain ⟨m, hm⟩ := hins a (by simp)
          obtain ⟨m', hm'⟩ := hins a' (by simp)
          rw [List.map_cons, List.map_cons, List.map_nil, isV]
          exact refIsV_5 A c a a' x w hs hx (isV a.er) (isV a'.er) (fun y w h1 h2 => ih a (by simp) m hm y w h1 h2) (fun y w h1 h2 => ih a' (by simp) m' hm' y w h1 h2)
        · unfold S2.arI at hlen
          rw [if_neg h0, if_neg h1, if_neg h2] at hlen
          omega

set_option maxHeartbeats 1000000 in
theorem refIsW_any (s : Sc) (x : Vl) (w : World) (hs : s.In w.heap.size w) (hx : x.In w) : Calls Tryz.prog 21 #[s.val, x.val] w (RetV w (.bool (isT 16 s.er && isV s.er x.er))) := by
  obtain ⟨k, A, c, l⟩ := s
  obtain ⟨n, m, sA, sc, ss, cA, cc, cs, vA, vc, vs⟩ := x
  have HB0 : Hid (Below w.heap.size w ((w.alloc (.cells #[.int .i64 k, .slice A l.length c] 24)).alloc (.cells #[.int .u64 n, .int .u64 m, .slice sA ss.length sc, .slice cA cs.length cc, .slice vA vs.length vc] 32))) := belAl (allocB _ _)
  have HS := Lib.hid hs
  have HX := Lib.hid hx
  obtain ⟨t, ht⟩ : ∃ z, isT 16 (Sc.mk k A c l).er = z := ⟨_, rfl⟩
  have HT := Lib.hid ht
  rw [ht]
  clear hs hx ht
  simp only [S2.val_mk, val_mk]
  go_enter Tryz.func21, Tryz.ntmps21
  go_wp2_with fail
  refine (refIsS_at k A c l t _ (HS.out.later HB0.out) HT.out).mono ?_
  rintro e w1 ⟨rfl, hb1⟩
  have HBX : Hid (Boxes w k A l.length c n m sA ss.length sc cA cs.length cc vA vs.length vc w1) := Boxes.later ⟨by go_simp, by go_simp, by go_simp, by go_simp, by go_simp, by go_simp, by go_simp, by simp, HB0.out⟩ hb1
  clear hb1 HB0
  cases t with
  | false =>
    go_wp2_with fail
    go_ret
    exact ⟨rfl, HBX.out.bel⟩
  | true =>
    have HI := Lib.hid (refIsV_any (.mk k A c l) 16 HT.out (.mk n m sA sc ss cA cc cs vA vc vs) w1 ((HS.out.keep HBX.out.bel).up HBX.out.bel.size) (HX.out.later HBX.out.bel))
    simp only [S2.val_mk, val_mk] at HI
    have i0 := HBX.out.i0
    have i1 := HBX.out.i1
    have c0 := HBX.out.c0
    have c1 := HBX.out.c1
    have c2 := HBX.out.c2
    have c3 := HBX.out.c3
    have c4 := HBX.out.c4
    go_wp2_with fail
    refine HI.out.mono ?_
    rintro e w2 ⟨rfl, hb2⟩
    have hbw := (HBX.out.later hb2).bel
    clear hb2
    generalize isV (Sc.mk k A c l).er (Vl.mk n m sA sc ss cA cc cs vA vc vs).er = z at *
    go_wp2_with fail
    go_ret
    exact ⟨rfl, hbw⟩
end Go.Proofs.YtleejffjnknohaaGreat.V4

namespace Go.Proofs.YtleejffjnknohaaGreat.J5
open C3 (Tk)
open V4 (aheadC aheadC_trans)

theorem aheadC_irrefl : ∀ a : List Tk, aheadC a a = false
  | [] => by simp [aheadC]
  | x :: a => by simp only [aheadC, if_true]; exact aheadC_irrefl a
theorem aheadC_tri : ∀ a b : List Tk, aheadC a b = false → aheadC b a = false → a = b
  | [], [], _, _ => rfl
  | [], _ :: _, h, _ => by simp [aheadC] at h
  | _ :: _, [], _, h => by simp [aheadC] at h
  | x :: a, y :: b, h, h' => by
    simp only [aheadC] at h h'
    by_cases h1 : x.k = y.k
    · rw [if_pos h1] at h
      rw [if_pos h1.symm] at h'
      by_cases h2 : x.n = y.n
      · rw [if_pos h2] at h
        rw [if_pos h2.symm] at h'
        have e : x = y := by cases x; cases y; simp at h1 h2; simp [h1, h2]
        rw [e, aheadC_tri a b h h']
      · rw [if_neg h2] at h
        rw [if_neg (Ne.symm h2)] at h'
        simp at h h'; omega
    · rw [if_neg h1] at h
      rw [if_neg (Ne.symm h1)] at h'
      simp at h h'; omega

theorem cmpT_lt {a b : List Tk} : cmpT a b < 0 ↔ aheadC a b = true := by
  unfold cmpT
  by_cases h1 : aheadC a b = true
  · rw [if_pos h1]; simp [h1]
  · rw [if_neg h1]
    split <;> simp_all
theorem cmpT_ok : Cmp cmpT := by
  refine ⟨fun {x y} h => ?_, fun x => ?_, fun {x y} h => ?_, fun h1 h2 => cmpT_lt.2 (aheadC_trans _ _ _ (cmpT_lt.1 h1) (cmpT_lt.1 h2))⟩
  · unfold cmpT at h
    by_cases h1 : aheadC x y = true
    · rw [if_pos h1] at h; omega
    · rw [if_neg h1] at h
      by_cases h2 : aheadC y x = true
      · rw [if_pos h2] at h; omega
      · exact aheadC_tri x y (by simpa using h1) (by simpa using h2)
  · unfold cmpT; rw [aheadC_irrefl]; simp
  · refine cmpT_lt.2 ?_
    unfold cmpT at h
    by_cases h1 : aheadC x y = true
    · rw [if_pos h1] at h; omega
    · rw [if_neg h1] at h
      by_cases h2 : aheadC y x = true
      · exact h2
      · rw [if_neg h2] at h; omega

section
variable {M V : Type} {c : M → M → Int} {z : V}

/-- Marks that rise. -/
abbrev Up (c : M → M → Int) (l : List (M × V)) : Prop := l.Pairwise fun p q => c p.1 q.1 < 0

/-- At one mark there is one. -/
theorem up_one (hc : Cmp c) {l : List (M × V)} (h : Up c l) {p q : M × V} (hp : p ∈ l) (hq : q ∈ l) (e : p.1 = q.1) : p = q := by
  induction l with
  | nil => cases hp
  | cons x l ih =>
    obtain ⟨h1, h2⟩ := List.pairwise_cons.1 h
    rcases List.mem_cons.1 hp with rfl | hp' <;> rcases List.mem_cons.1 hq with rfl | hq'
    · rfl
    · exact absurd e (hc.ne (h1 q hq'))
    · exact absurd e.symm (hc.ne (h1 p hp'))
    · exact ih h2 hp' hq'

/-- Lines that have the same in them are the same. -/
theorem up_ext (hc : Cmp c) : ∀ {a b : List (M × V)}, Up c a → Up c b → (∀ p, p ∈ a ↔ p ∈ b) → a = b
  | [], [], _, _, _ => rfl
  | [], y :: b, _, _, h => by have := (h y).2 (by simp); cases this
  | x :: a, [], _, _, h => by have := (h x).1 (by simp); cases this
  | x :: a, y :: b, ha, hb, h => by
    obtain ⟨a1, a2⟩ := List.pairwise_cons.1 ha
    obtain ⟨b1, b2⟩ := List.pairwise_cons.1 hb
    have e : x = y := by
      rcases List.mem_cons.1 ((h x).1 (by simp)) with e | e
      · exact e
      · rcases List.mem_cons.1 ((h y).2 (by simp)) with e2 | e2
        · exact e2.symm
        · have h1 := b1 x e
          have h2 := a1 y e2
          have := hc.trans h1 h2
          rw [hc.refl] at this
          omega
    subst e
    rw [up_ext hc a2 b2 fun p => ⟨fun hp => ?_, fun hp => ?_⟩]
    · rcases List.mem_cons.1 ((h p).1 (by simp [hp])) with e | e
      · subst e; exact absurd rfl (hc.ne (a1 p hp))
      · exact e
    · rcases List.mem_cons.1 ((h p).2 (by simp [hp])) with e | e
      · subst e; exact absurd rfl (hc.ne (b1 p hp))
      · exact e

/-- What stands in both lines together. -/
def InMix (z : V) (a b : List (M × V)) (p : M × V × V) : Prop :=
  ((p.1, p.2.1) ∈ a ∧ (p.1, p.2.2) ∈ b) ∨ ((p.1, p.2.1) ∈ a ∧ (∀ q ∈ b, q.1 ≠ p.1) ∧ p.2.2 = z) ∨ ((∀ q ∈ a, q.1 ≠ p.1) ∧ p.2.1 = z ∧ (p.1, p.2.2) ∈ b)

theorem mem_mix (hc : Cmp c) (a b : List (M × V)) : Up c a → Up c b → ∀ p, p ∈ mix c z a b ↔ InMix z a b p := by
  induction a, b using mix.induct (c := c) with
  | case1 b =>
    intro _ _ p
    rw [mix, List.mem_map]
    constructor
    · rintro ⟨y, hy, rfl⟩
      exact .inr (.inr ⟨fun _ h => (by cases h), rfl, hy⟩)
    · rintro (⟨h, _⟩ | ⟨h, _⟩ | ⟨_, h1, h2⟩)
      · cases h
      · cases h
      · exact ⟨_, h2, by rw [← h1]⟩
  | case2 x a =>
    intro _ _ p
    rw [mix, List.mem_map]
    constructor
    · rintro ⟨y, hy, rfl⟩
      exact .inr (.inl ⟨hy, fun _ h => (by cases h), rfl⟩)
    · rintro (⟨_, h⟩ | ⟨h1, _, h2⟩ | ⟨_, _, h⟩)
      · cases h
      · exact ⟨_, h1, by rw [← h2]⟩
      · cases h
  | case3 x a y b h ih =>
    intro ha hb p
    obtain ⟨a1, a2⟩ := List.pairwise_cons.1 ha
    obtain ⟨b1, b2⟩ := List.pairwise_cons.1 hb
    have hxb : ∀ q ∈ y :: b, q.1 ≠ x.1 := fun q hq e => by
      rcases List.mem_cons.1 hq with rfl | hq
      · exact hc.ne h e.symm
      · exact hc.ne (hc.trans h (b1 q hq)) e.symm
    rw [mix_lt c z a b h, List.mem_cons, ih a2 hb p]
    constructor
    · rintro (rfl | h1 | ⟨h1, h2⟩ | ⟨h1, h2, h3⟩)
      · exact .inr (.inl ⟨by simp, hxb, rfl⟩)
      · exact .inl ⟨by simp [h1.1], h1.2⟩
      · exact .inr (.inl ⟨by simp [h1], h2⟩)
      · refine .inr (.inr ⟨fun q hq e => ?_, h2, h3⟩)
        rcases List.mem_cons.1 hq with rfl | hq
        · exact hxb _ h3 e.symm
        · exact h1 q hq e
    · rintro (⟨h1, h2⟩ | ⟨h1, h2, h3⟩ | ⟨h1, h2, h3⟩)
      · rcases List.mem_cons.1 h1 with e | h1
        · exact absurd (by rw [← e]) (hxb _ h2)
        · exact .inr (.inl ⟨h1, h2⟩)
      · rcases List.mem_cons.1 h1 with e | h1
        · refine .inl ?_
          rw [← e, ← h3]
        · exact .inr (.inr (.inl ⟨h1, h2, h3⟩))
      · exact .inr (.inr (.inr ⟨fun q hq => h1 q (by simp [hq]), h2, h3⟩))
  | case4 x a y b h h' ih =>
    intro ha hb p
    obtain ⟨a1, a2⟩ := List.pairwise_cons.1 ha
    obtain ⟨b1, b2⟩ := List.pairwise_cons.1 hb
    have h2 := hc.gt h'
    have hya : ∀ q ∈ x :: a, q.1 ≠ y.1 := fun q hq e => by
      rcases List.mem_cons.1 hq with rfl | hq
      · exact hc.ne h2 e.symm
      · exact hc.ne (hc.trans h2 (a1 q hq)) e.symm
    rw [mix_gt c z a b h', List.mem_cons, ih ha b2 p]
    constructor
    · rintro (rfl | h1 | ⟨h1, h3, h4⟩ | ⟨h1, h3, h4⟩)
      · exact .inr (.inr ⟨hya, rfl, by simp⟩)
      · exact .inl ⟨h1.1, by simp [h1.2]⟩
      · refine .inr (.inl ⟨h1, fun q hq e => ?_, h4⟩)
        rcases List.mem_cons.1 hq with rfl | hq
        · exact hya _ h1 e.symm
        · exact h3 q hq e
      · exact .inr (.inr ⟨h1, h3, by simp [h4]⟩)
    · rintro (⟨h1, h3⟩ | ⟨h1, h3, h4⟩ | ⟨h1, h3, h4⟩)
      · rcases List.mem_cons.1 h3 with e | h3
        · exact absurd (by rw [← e]) (hya _ h1)
        · exact .inr (.inl ⟨h1, h3⟩)
      · exact .inr (.inr (.inl ⟨h1, fun q hq => h3 q (by simp [hq]), h4⟩))
      · rcases List.mem_cons.1 h4 with e | h4
        · refine .inl ?_
          rw [← e, ← h3]
        · exact .inr (.inr (.inr ⟨h1, h3, h4⟩))
  | case5 x a y b h h' ih =>
    intro ha hb p
    obtain ⟨a1, a2⟩ := List.pairwise_cons.1 ha
    obtain ⟨b1, b2⟩ := List.pairwise_cons.1 hb
    have h0 : c x.1 y.1 = 0 := by omega
    have e0 : x.1 = y.1 := hc.eq h0
    rw [mix_eq c z a b h0, List.mem_cons, ih a2 b2 p]
    constructor
    · rintro (rfl | h1 | ⟨h1, h3, h4⟩ | ⟨h1, h3, h4⟩)
      · exact .inl ⟨by rw [← e0]; simp, by simp⟩
      · exact .inl ⟨by simp [h1.1], by simp [h1.2]⟩
      · refine .inr (.inl ⟨by simp [h1], fun q hq e => ?_, h4⟩)
        rcases List.mem_cons.1 hq with rfl | hq
        · exact hc.ne (a1 _ h1) (e0.trans e)
        · exact h3 q hq e
      · refine .inr (.inr ⟨fun q hq e => ?_, h3, by simp [h4]⟩)
        rcases List.mem_cons.1 hq with rfl | hq
        · exact hc.ne (b1 _ h4) (e0.symm.trans e)
        · exact h1 q hq e
    · rintro (⟨h1, h3⟩ | ⟨h1, h3, h4⟩ | ⟨h1, h3, h4⟩)
      · rcases List.mem_cons.1 h1 with e | h1 <;> rcases List.mem_cons.1 h3 with e2 | h3
        · refine .inl ?_
          rw [← e, ← e2]
        · exact absurd (by rw [← e0, ← e]) (hc.ne (b1 _ h3))
        · exact absurd (by rw [e0, ← e2]) (hc.ne (a1 _ h1))
        · exact .inr (.inl ⟨h1, h3⟩)
      · rcases List.mem_cons.1 h1 with e | h1
        · exact absurd (by rw [← e0, ← e]) (h3 y (by simp))
        · exact .inr (.inr (.inl ⟨h1, fun q hq => h3 q (by simp [hq]), h4⟩))
      · rcases List.mem_cons.1 h4 with e | h4
        · exact absurd (by rw [e0, ← e]) (h1 x (by simp))
        · exact .inr (.inr (.inr ⟨fun q hq => h1 q (by simp [hq]), h3, h4⟩))

/-- Its marks rise. -/
theorem mix_up (hc : Cmp c) (a b : List (M × V)) : Up c a → Up c b → Up c (mix c z a b) := by
  have low : ∀ (m : M) (a b : List (M × V)), (∀ q ∈ a, c m q.1 < 0) → (∀ q ∈ b, c m q.1 < 0) → ∀ p ∈ mix c z a b, c m p.1 < 0 := fun m a b h1 h2 p hp => by
    rcases (mix_mem c z a b hp).2.2 with ⟨x, hx, e⟩ | ⟨x, hx, e⟩
    · rw [← e]; exact h1 x hx
    · rw [← e]; exact h2 x hx
  induction a, b using mix.induct (c := c) with
  | case1 b => intro _ hb; rw [mix]; exact List.pairwise_map.2 hb
  | case2 x a => intro ha _; rw [mix]; exact List.pairwise_map.2 ha
  | case3 x a y b h ih =>
    intro ha hb
    obtain ⟨a1, a2⟩ := List.pairwise_cons.1 ha
    obtain ⟨b1, b2⟩ := List.pairwise_cons.1 hb
    rw [mix_lt c z a b h]
    refine List.pairwise_cons.2 ⟨low x.1 a (y :: b) a1 fun q hq => ?_, ih a2 hb⟩
    rcases List.mem_cons.1 hq with rfl | hq
    · exact h
    · exact hc.trans h (b1 q hq)
  | case4 x a y b h h' ih =>
    intro ha hb
    obtain ⟨a1, a2⟩ := List.pairwise_cons.1 ha
    obtain ⟨b1, b2⟩ := List.pairwise_cons.1 hb
    have h2 := hc.gt h'
    rw [mix_gt c z a b h']
    refine List.pairwise_cons.2 ⟨low y.1 (x :: a) b (fun q hq => ?_) b1, ih ha b2⟩
    rcases List.mem_cons.1 hq with rfl | hq
    · exact h2
    · exact hc.trans h2 (a1 q hq)
  | case5 x a y b h h' ih =>
    intro ha hb
    obtain ⟨a1, a2⟩ := List.pairwise_cons.1 ha
    obtain ⟨b1, b2⟩ := List.pairwise_cons.1 hb
    have h0 : c x.1 y.1 = 0 := by omega
    have e0 : x.1 = y.1 := hc.eq h0
    rw [mix_eq c z a b h0]
    exact List.pairwise_cons.2 ⟨low y.1 a b (e0 ▸ a1) b1, ih a2 b2⟩
end

/-- What comes of it. -/
theorem mem_allE {M V W : Type} {f : V → V → Option W} : ∀ {l : List (M × V × V)} {r : List (M × W)}, allE f l = some r → ∀ p, p ∈ r ↔ ∃ q ∈ l, q.1 = p.1 ∧ f q.2.1 q.2.2 = some p.2
  | [], r, h, p => by simp [allE] at h; subst h; simp
  | q :: l, r, h, p => by
    rw [allE] at h
    cases hf : f q.2.1 q.2.2 with
    | none => rw [hf] at h; simp at h
    | some v =>
      rw [hf] at h
      cases ha : allE f l with
      | none => rw [ha] at h; simp at h
      | some x =>
        rw [ha] at h
        simp at h
        subst h
        rw [List.mem_cons, mem_allE ha p]
        constructor
        · rintro (rfl | ⟨q', h1, h2⟩)
          · exact ⟨q, by simp, rfl, hf⟩
          · exact ⟨q', by simp [h1], h2⟩
        · rintro ⟨q', h1, h2, h3⟩
          rcases List.mem_cons.1 h1 with rfl | h1
          · refine .inl (Prod.ext h2.symm ?_)
            rw [hf] at h3
            exact (Option.some.inj h3).symm
          · exact .inr ⟨q', h1, h2, h3⟩
theorem togE_marks' {M V W : Type} {f : V → V → Option W} : ∀ {l : List (M × V × V)} {r : List (M × W)}, allE f l = some r → r.map (·.1) = l.map (·.1)
  | [], r, h => by simp [allE] at h; subst h; rfl
  | q :: l, r, h => by
    rw [allE] at h
    cases hf : f q.2.1 q.2.2 with
    | none => rw [hf] at h; simp at h
    | some v =>
      rw [hf] at h
      cases ha : allE f l with
      | none => rw [ha] at h; simp at h
      | some x =>
        rw [ha] at h
        simp at h
        subst h
        rw [List.map_cons, List.map_cons, togE_marks' ha]
theorem up_of_marks {M V W : Type} {c : M → M → Int} {l : List (M × V)} {r : List (M × W)} (h : r.map (·.1) = l.map (·.1)) (hl : Up c l) : Up c r := by
  have h1 : (l.map (·.1)).Pairwise (fun x y => c x y < 0) := List.pairwise_map.2 hl
  rw [← h] at h1
  exact List.pairwise_map.1 h1
end Go.Proofs.YtleejffjnknohaaGreat.J5

namespace Go.Proofs.YtleejffjnknohaaGreat.J5
open C3 (Tk isC isC_out isC_mk Asc ofC ofC_none ofC_mem underC cmpB cmpC cmpI mergeC mergeC_nil_left mergeC_nil_right mergeC_lt mergeC_gt mergeC_eq laterC)
open V4 (Va)

theorem ofC_get (l : List Tk) (q : Int) : (∃ t ∈ l, t.k = q ∧ ofC l q = t.n) ∨ ((∀ t ∈ l, t.k ≠ q) ∧ ofC l q = 0) := by
  induction l with
  | nil => exact .inr ⟨(fun _ h => by cases h), rfl⟩
  | cons x l ih =>
    rw [ofC]
    by_cases h : x.k = q
    · rw [if_pos h]; exact .inl ⟨x, by simp, h, rfl⟩
    · rw [if_neg h]
      rcases ih with ⟨t, h1, h2, h3⟩ | ⟨h1, h2⟩
      · exact .inl ⟨t, by simp [h1], h2, h3⟩
      · refine .inr ⟨fun t ht => ?_, h2⟩
        rcases List.mem_cons.1 ht with rfl | ht
        · exact h
        · exact h1 t ht
theorem ofC_nn {l : List Tk} (h : NnC l) (q : Int) : 0 ≤ ofC l q := by
  rcases ofC_get l q with ⟨t, h1, _, h3⟩ | ⟨_, h2⟩
  · rw [h3]; exact h t h1
  · omega
theorem under_of {a b : List Tk} (h : underC a b = true) (hb : NnC b) (q : Int) : ofC a q ≤ ofC b q := by
  unfold underC at h
  rcases ofC_get a q with ⟨t, h1, h2, h3⟩ | ⟨_, h2⟩
  · have := of_decide_eq_true (List.all_eq_true.1 h t h1)
    rw [h3, ← h2]; exact this
  · rw [h2]; exact ofC_nn hb q
theorem under_mk {a b : List Tk} (ha : Asc a) (h : ∀ q, ofC a q ≤ ofC b q) : underC a b = true := by
  unfold underC
  refine List.all_eq_true.2 fun t ht => decide_eq_true ?_
  have := h t.k
  rwa [ofC_mem ha ht] at this
theorem under_trans {a b c : List Tk} (h1 : underC a b = true) (h2 : underC b c = true) (hc : NnC c) : underC a c = true := by
  unfold underC at h1 ⊢
  refine List.all_eq_true.2 fun t ht => decide_eq_true ?_
  have := of_decide_eq_true (List.all_eq_true.1 h1 t ht)
  have := under_of h2 hc t.k
  omega
theorem clock_ext {a b : List Tk} (ha : isC a = true) (hb : isC b = true) (h : ∀ q, ofC a q = ofC b q) : a = b := by
  obtain ⟨_, a1, a2⟩ := isC_out ha
  obtain ⟨_, b1, b2⟩ := isC_out hb
  have mem : ∀ {a b : List Tk}, Asc a → (∀ x ∈ a, 0 ≤ x.k ∧ x.k ≤ 1000000 ∧ x.n ≠ 0) → (∀ q, ofC a q = ofC b q) → ∀ t ∈ a, t ∈ b := fun {a b} ha hz h t ht => by
    have e := h t.k
    rw [ofC_mem ha ht] at e
    rcases ofC_get b t.k with ⟨u, h1, h2, h3⟩ | ⟨_, h2⟩
    · have : u = t := by cases u; cases t; simp at h2 h3 e; simp [h2, e, h3]
      rw [← this]; exact h1
    · exact absurd (e.trans h2) (hz t ht).2.2
  have ext : ∀ {a b : List Tk}, Asc a → Asc b → (∀ t, t ∈ a ↔ t ∈ b) → a = b := fun {a b} ha hb h => by
    have h1 : (a.map fun t => (t.k, t.n)) = b.map fun t => (t.k, t.n) := by
      refine up_ext (c := fun x y : Int => x - y) ⟨fun h => by omega, fun x => by omega, fun h => by omega, fun h1 h2 => by omega⟩ (List.pairwise_map.2 (ha.imp fun h => by simp; omega)) (List.pairwise_map.2 (hb.imp fun h => by simp; omega)) fun p => ?_
      rw [List.mem_map, List.mem_map]
      exact ⟨fun ⟨t, ht, e⟩ => ⟨t, (h t).1 ht, e⟩, fun ⟨t, ht, e⟩ => ⟨t, (h t).2 ht, e⟩⟩
    have h2 := congrArg (fun l : List (Int × Int) => l.map fun p => Tk.mk p.1 p.2) h1
    simpa [Function.comp_def] using h2
  exact ext a1 b1 fun t => ⟨mem a1 a2 h t, mem b1 b2 (fun q => (h q).symm) t⟩

theorem cmpC_lt {a b : List Tk} : cmpC a b = -1 ↔ underC a b = true ∧ underC b a = false := by
  unfold cmpC
  cases underC a b <;> cases underC b a <;> simp [cmpB]
theorem cmpC_trans {a b c : List Tk} (h1 : cmpC a b = -1) (h2 : cmpC b c = -1) (hb : NnC b) (hc : NnC c) : cmpC a c = -1 := by
  rw [cmpC_lt] at *
  refine ⟨under_trans h1.1 h2.1 hc, ?_⟩
  cases h : underC c a with
  | false => rfl
  | true =>
    have := under_trans h h1.1 hb
    rw [h2.2] at this
    cases this
theorem cmpC_irrefl (a : List Tk) : cmpC a a ≠ -1 := by
  rw [Ne, cmpC_lt]
  rintro ⟨h1, h2⟩
  rw [h1] at h2
  cases h2

theorem mem_merge {t : Tk} (a b : List Tk) (h : t ∈ mergeC a b) : t ∈ a ∨ t ∈ b := by
  induction a, b using mergeC.induct with
  | case1 b => rw [mergeC_nil_left] at h; exact .inr h
  | case2 x a => rw [mergeC_nil_right] at h; exact .inl h
  | case3 x a y b hlt ih =>
    rw [mergeC_lt _ _ hlt] at h
    rcases List.mem_cons.1 h with rfl | h
    · exact .inl (by simp)
    · exact (ih h).imp (fun h => by simp [h]) id
  | case4 x a y b hlt hgt ih =>
    rw [mergeC_gt _ _ hgt] at h
    rcases List.mem_cons.1 h with rfl | h
    · exact .inr (by simp)
    · exact (ih h).imp id (fun h => by simp [h])
  | case5 x a y b hlt hgt ih =>
    rw [mergeC_eq _ _ (by omega)] at h
    rcases List.mem_cons.1 h with e | h
    · subst e
      unfold laterC
      split
      · exact .inr (by simp)
      · exact .inl (by simp)
    · exact (ih h).imp (fun h => by simp [h]) (fun h => by simp [h])
theorem merge_asc (a b : List Tk) : Asc a → Asc b → Asc (mergeC a b) := by
  induction a, b using mergeC.induct with
  | case1 b => rw [mergeC_nil_left]; exact fun _ h => h
  | case2 x a => rw [mergeC_nil_right]; exact fun h _ => h
  | case3 x a y b hlt ih =>
    intro ha hb
    obtain ⟨a1, a2⟩ := List.pairwise_cons.1 ha
    obtain ⟨b1, b2⟩ := List.pairwise_cons.1 hb
    rw [mergeC_lt _ _ hlt]
    refine List.pairwise_cons.2 ⟨fun t ht => ?_, ih a2 hb⟩
    rcases mem_merge _ _ ht with h | h
    · exact a1 t h
    · rcases List.mem_cons.1 h with rfl | h
      · exact hlt
      · have := b1 t h; omega
  | case4 x a y b hlt hgt ih =>
    intro ha hb
    obtain ⟨a1, a2⟩ := List.pairwise_cons.1 ha
    obtain ⟨b1, b2⟩ := List.pairwise_cons.1 hb
    rw [mergeC_gt _ _ hgt]
    refine List.pairwise_cons.2 ⟨fun t ht => ?_, ih ha b2⟩
    rcases mem_merge _ _ ht with h | h
    · rcases List.mem_cons.1 h with rfl | h
      · exact hgt
      · have := a1 t h; omega
    · exact b1 t h
  | case5 x a y b hlt hgt ih =>
    intro ha hb
    obtain ⟨a1, a2⟩ := List.pairwise_cons.1 ha
    obtain ⟨b1, b2⟩ := List.pairwise_cons.1 hb
    have e : x.k = y.k := by omega
    rw [mergeC_eq _ _ e]
    refine List.pairwise_cons.2 ⟨fun t ht => ?_, ih a2 b2⟩
    have hk : (laterC x y).k = x.k := by unfold laterC; split; exact e.symm; rfl
    rw [hk]
    rcases mem_merge _ _ ht with h | h
    · exact a1 t h
    · rw [e]; exact b1 t h
theorem ofC_merge (a b : List Tk) : Asc a → Asc b → NnC a → NnC b → ∀ q, ofC (mergeC a b) q = max (ofC a q) (ofC b q) := by
  have low : ∀ {l : List Tk} {q : Int}, (∀ t ∈ l, q < t.k) → ofC l q = 0 := fun {l q} h => ofC_none fun t ht => by have := h t ht; omega
  induction a, b using mergeC.induct with
  | case1 b => intro _ _ _ hb q; rw [mergeC_nil_left, ofC]; have := ofC_nn hb q; omega
  | case2 x a => intro _ _ ha _ q; rw [mergeC_nil_right]; have := ofC_nn ha q; simp only [ofC] at this ⊢; omega
  | case3 x a y b hlt ih =>
    intro ha hb na nb q
    obtain ⟨a1, a2⟩ := List.pairwise_cons.1 ha
    obtain ⟨b1, b2⟩ := List.pairwise_cons.1 hb
    rw [mergeC_lt _ _ hlt, ofC, ih a2 hb (fun t ht => na t (by simp [ht])) nb q]
    by_cases h : x.k = q
    · rw [if_pos h, ofC, if_pos h]
      have : ofC (y :: b) q = 0 := low fun t ht => by
        rcases List.mem_cons.1 ht with rfl | ht
        · omega
        · have := b1 t ht; omega
      rw [this]
      have := na x (by simp); omega
    · rw [if_neg h, ofC.eq_2 q x a, if_neg h]
  | case4 x a y b hlt hgt ih =>
    intro ha hb na nb q
    obtain ⟨a1, a2⟩ := List.pairwise_cons.1 ha
    obtain ⟨b1, b2⟩ := List.pairwise_cons.1 hb
    rw [mergeC_gt _ _ hgt, ofC, ih ha b2 na (fun t ht => nb t (by simp [ht])) q]
    by_cases h : y.k = q
    · rw [if_pos h, ofC.eq_2 q y b, if_pos h]
      have : ofC (x :: a) q = 0 := low fun t ht => by
        rcases List.mem_cons.1 ht with rfl | ht
        · omega
        · have := a1 t ht; omega
      rw [this]
      have := nb y (by simp); omega
    · rw [if_neg h, ofC.eq_2 q y b, if_neg h]
  | case5 x a y b hlt hgt ih =>
    intro ha hb na nb q
    obtain ⟨a1, a2⟩ := List.pairwise_cons.1 ha
    obtain ⟨b1, b2⟩ := List.pairwise_cons.1 hb
    have e : x.k = y.k := by omega
    rw [mergeC_eq _ _ e, ofC, ih a2 b2 (fun t ht => na t (by simp [ht])) (fun t ht => nb t (by simp [ht])) q, ofC.eq_2 q x a, ofC.eq_2 q y b]
    have hk : (laterC x y).k = x.k := by unfold laterC; split; exact e.symm; rfl
    rw [hk, ← e]
    by_cases h : x.k = q
    · rw [if_pos h, if_pos h, if_pos h]
      unfold laterC
      split <;> omega
    · rw [if_neg h, if_neg h, if_neg h]

/-- First by the one, then by the other. -/
def lexC {A B : Type} (c : A → A → Int) (d : B → B → Int) (x y : A × B) : Int := if c x.1 y.1 = 0 then d x.2 y.2 else c x.1 y.1
theorem lexC_ok {A B : Type} {c : A → A → Int} {d : B → B → Int} (hc : Cmp c) (hd : Cmp d) : Cmp (lexC c d) := by
  refine ⟨fun {x y} h => ?_, fun x => ?_, fun {x y} h => ?_, fun {x y z} h1 h2 => ?_⟩
  · unfold lexC at h
    by_cases h0 : c x.1 y.1 = 0
    · rw [if_pos h0] at h; exact Prod.ext (hc.eq h0) (hd.eq h)
    · rw [if_neg h0] at h; exact absurd h h0
  · unfold lexC; rw [if_pos (hc.refl _)]; exact hd.refl _
  · unfold lexC at h ⊢
    by_cases h0 : c x.1 y.1 = 0
    · rw [if_pos h0] at h
      rw [hc.eq h0, if_pos (hc.refl _)]; exact hd.gt h
    · rw [if_neg h0] at h
      have := hc.gt h
      rw [if_neg (by omega)]; exact this
  · unfold lexC at h1 h2 ⊢
    by_cases e1 : c x.1 y.1 = 0
    · rw [if_pos e1] at h1
      rw [hc.eq e1]
      by_cases e2 : c y.1 z.1 = 0
      · rw [if_pos e2] at h2 ⊢; exact hd.trans h1 h2
      · rw [if_neg e2] at h2 ⊢; exact h2
    · rw [if_neg e1] at h1
      by_cases e2 : c y.1 z.1 = 0
      · rw [if_pos e2] at h2
        rw [← hc.eq e2, if_neg e1]; exact h1
      · rw [if_neg e2] at h2
        have := hc.trans h1 h2
        rw [if_neg (by omega)]; exact this

theorem cmpI_ok : Cmp cmpI := by
  refine ⟨fun {x y} h => ?_, fun x => C3.cmpI_eq x, fun {x y} h => ?_, fun {x y z} h1 h2 => ?_⟩ <;> unfold cmpI at *
  · split at h
    · omega
    · split at h <;> omega
  · split at h
    · omega
    · split at h
      · rw [if_pos (by omega)]; decide
      · omega
  · have e1 : x < y := by
      split at h1
      · assumption
      · split at h1 <;> omega
    have e2 : y < z := by
      split at h2
      · assumption
      · split at h2 <;> omega
    rw [if_pos (by omega)]; decide
theorem cmpL_ok : Cmp cmpL := by
  have eq : ∀ x y : List Str, cmpL x y = 0 → x = y := by
    intro x
    induction x with
    | nil => intro y h; cases y with
      | nil => rfl
      | cons y b => simp [cmpL] at h
    | cons x a ih => intro y h; cases y with
      | nil => simp [cmpL] at h
      | cons y b =>
        rw [cmpL] at h
        by_cases h0 : cmpS x y = 0
        · rw [if_pos h0] at h; rw [cmpS_ok.eq h0, ih b h]
        · rw [if_neg h0] at h; exact absurd h h0
  have refl : ∀ x : List Str, cmpL x x = 0 := by
    intro x
    induction x with
    | nil => rfl
    | cons x a ih => rw [cmpL, if_pos (cmpS_ok.refl _), ih]
  have gt : ∀ x y : List Str, 0 < cmpL x y → cmpL y x < 0 := by
    intro x
    induction x with
    | nil => intro y h; cases y with
      | nil => simp [cmpL] at h
      | cons y b => simp [cmpL] at h
    | cons x a ih => intro y h; cases y with
      | nil => simp [cmpL]
      | cons y b =>
        rw [cmpL] at h ⊢
        by_cases h0 : cmpS x y = 0
        · rw [if_pos h0] at h
          rw [cmpS_ok.eq h0, if_pos (cmpS_ok.refl _)]; exact ih b h
        · rw [if_neg h0] at h
          have := cmpS_ok.gt h
          rw [if_neg (by omega)]; exact this
  have trans : ∀ x y z : List Str, cmpL x y < 0 → cmpL y z < 0 → cmpL x z < 0 := by
    intro x
    induction x with
    | nil => intro y z h1 h2; cases y with
      | nil => simp [cmpL] at h1
      | cons y b => cases z with
        | nil => simp [cmpL] at h2
        | cons z c => simp [cmpL]
    | cons x a ih => intro y z h1 h2; cases y with
      | nil => simp [cmpL] at h1
      | cons y b => cases z with
        | nil => simp [cmpL] at h2
        | cons z c =>
          rw [cmpL] at h1 h2 ⊢
          by_cases e1 : cmpS x y = 0
          · rw [if_pos e1] at h1
            rw [cmpS_ok.eq e1]
            by_cases e2 : cmpS y z = 0
            · rw [if_pos e2] at h2 ⊢; exact ih b c h1 h2
            · rw [if_neg e2] at h2 ⊢; exact h2
          · rw [if_neg e1] at h1
            by_cases e2 : cmpS y z = 0
            · rw [if_pos e2] at h2
              rw [← cmpS_ok.eq e2, if_neg e1]; exact h1
            · rw [if_neg e2] at h2
              have := cmpS_ok.trans h1 h2
              rw [if_neg (by omega)]; exact this
  exact ⟨fun {x y} => eq x y, refl, fun {x y} => gt x y, fun {x y z} => trans x y z⟩

/-- What a last writer is told by. -/
def keyW (x : Va) : Int × Int × List Str := (x.n, x.m, x.s)
theorem writer_lex (x y : Va) : writerI x y = lexC cmpI (lexC cmpI cmpL) (keyW x) (keyW y) := rfl
theorem keyW_ok : Cmp (lexC cmpI (lexC cmpI cmpL)) := lexC_ok cmpI_ok (lexC_ok cmpI_ok cmpL_ok)
theorem writer_zero {y : Va} (h1 : 0 ≤ y.n) (h2 : 0 ≤ y.m) : writerI .zero y ≤ 0 := by
  unfold writerI
  show (if cmpI 0 y.n = 0 then (if cmpI 0 y.m = 0 then cmpL [] y.s else cmpI 0 y.m) else cmpI 0 y.n) ≤ 0
  have c : ∀ {k : Int}, 0 ≤ k → cmpI 0 k ≤ 0 := fun {k} h => by unfold cmpI; split; decide; rw [if_neg (by omega)]; decide
  split
  · split
    · cases y.s <;> simp [cmpL]
    · exact c h2
  · exact c h1
end Go.Proofs.YtleejffjnknohaaGreat.J5

namespace Go.Proofs.YtleejffjnknohaaGreat.J5
open C3 (Tk isC isC_out Asc ofC underC cmpC)
open S2 (Tr isT)
open V4 (Va isV botT ApR isT_le)

def mapLe (f : Va → Va → Prop) (x y : Va) : Prop := ∀ p ∈ x.s.zip x.v, ∃ q ∈ y.s.zip y.v, q.1 = p.1 ∧ f p.2 q.2
def causeLe (f : Va → Va → Prop) (x y : Va) : Prop := ∀ p ∈ x.c.zip x.v, (∃ q ∈ y.c.zip y.v, cmpC p.1 q.1 = -1) ∨ ∃ q ∈ y.c.zip y.v, q.1 = p.1 ∧ f p.2 q.2

/-- Less, or the same. -/
def leV : Tr → Va → Va → Prop
  | .mk k [], x, y => if k = 3 then ∀ s ∈ x.s, s ∈ y.s else if k = 6 then writerI x y ≤ 0 else if k = 7 then underC (ckE x) (ckE y) = true else x.n ≤ y.n
  | .mk k [a], x, y => if k = 4 then mapLe (leV a) x y else causeLe (leV a) x y
  | .mk _ [a, b], x, y => leV a (halfE x 0) (halfE y 0) ∧ leV b (halfE x 1) (halfE y 1)
  | .mk _ (_ :: _ :: _ :: _), _, _ => False

theorem Nn.half {x : Va} (h : Nn x) (i : Nat) : Nn (halfE x i) := by
  unfold halfE
  cases e : x.v[i]? with
  | none => exact .zero
  | some y => exact h.out.2.2.2 y (List.mem_of_getElem? e)
theorem leV_num {k : Int} (hk : k = 1 ∨ k = 2) (x y : Va) : leV (.mk k []) x y ↔ x.n ≤ y.n := by rw [leV, if_neg (by omega), if_neg (by omega), if_neg (by omega)]
theorem leV_set (x y : Va) : leV (.mk 3 []) x y ↔ ∀ s ∈ x.s, s ∈ y.s := by rw [leV, if_pos rfl]
theorem leV_last (x y : Va) : leV (.mk 6 []) x y ↔ writerI x y ≤ 0 := by rw [leV, if_neg (by decide), if_pos rfl]
theorem leV_clock (x y : Va) : leV (.mk 7 []) x y ↔ underC (ckE x) (ckE y) = true := by rw [leV, if_neg (by decide), if_neg (by decide), if_pos rfl]
theorem leV_map (a : Tr) (x y : Va) : leV (.mk 4 [a]) x y ↔ mapLe (leV a) x y := by rw [leV, if_pos rfl]
theorem leV_cause (a : Tr) (x y : Va) : leV (.mk 8 [a]) x y ↔ causeLe (leV a) x y := by rw [leV, if_neg (by decide)]
theorem leV_pair (a b : Tr) (x y : Va) : leV (.mk 5 [a, b]) x y ↔ leV a (halfE x 0) (halfE y 0) ∧ leV b (halfE x 1) (halfE y 1) := by rw [leV]

/-- Nothing is less than all. -/
theorem leV_zero : ∀ (n : Nat) (t : Tr), isT n t = true → ∀ y, Nn y → leV t .zero y := by
  intro n
  induction n with
  | zero => intro t h; simp [isT] at h
  | succ n ih =>
    intro t h y hy
    obtain ⟨m, hm, h⟩ := isT_cases h
    obtain rfl : n = m := by omega
    rcases h with ⟨k, hk, rfl⟩ | ⟨k, a, hk, rfl, ha⟩ | ⟨a, b, rfl, ha, hb⟩
    · rcases hk with rfl | rfl | rfl | rfl | rfl
      · exact (leV_num (.inl rfl) _ _).2 hy.out.1
      · exact (leV_num (.inr rfl) _ _).2 hy.out.1
      · exact (leV_set _ _).2 fun s hs => by cases hs
      · exact (leV_last _ _).2 (writer_zero hy.out.1 hy.out.2.1)
      · exact (leV_clock _ _).2 rfl
    · rcases hk with rfl | rfl
      · exact (leV_map _ _ _).2 fun p hp => by cases hp
      · exact (leV_cause _ _ _).2 fun p hp => by cases hp
    · exact (leV_pair _ _ _ _).2 ⟨ih a ha _ (hy.half 0), ih b hb _ (hy.half 1)⟩

theorem leV_bot : ∀ (n : Nat) (t : Tr), n ≤ 16 → isT n t = true → ∀ y, Nn y → leV t (botT t) y := by
  intro n
  induction n with
  | zero => intro t _ h; simp [isT] at h
  | succ n ih =>
    intro t hn h y hy
    rcases botT_of h hn with ⟨e, _⟩ | ⟨a, b, rfl, e⟩
    · rw [e]; exact leV_zero _ t h y hy
    · obtain ⟨m, hm, h⟩ := isT_cases h
      obtain rfl : n = m := by omega
      rcases h with ⟨k, _, e2⟩ | ⟨k, _, _, e2, _⟩ | ⟨a', b', e2, ha, hb⟩
      · cases e2
      · cases e2
      · cases e2
        rw [e]
        exact (leV_pair _ _ _ _).2 ⟨ih a (by omega) ha _ (hy.half 0), ih b (by omega) hb _ (hy.half 1)⟩

theorem zip_nn {M : Type} {l : List M} {v : List Va} (h : ∀ y ∈ v, Nn y) {p : M × Va} (hp : p ∈ l.zip v) : Nn p.2 := h _ (List.of_mem_zip hp).2

theorem srt_up {V : Type} {s : List Str} {v : List V} (h : R1.Srt s) (hl : s.length = v.length) : Up cmpS (s.zip v) := by
  have h1 : ((s.zip v).map (·.1)).Pairwise (fun x y => cmpS x y < 0) := by
    rw [List.map_fst_zip (by omega)]
    exact h.imp fun h => by unfold cmpS; rw [if_pos h]; decide
  exact List.pairwise_map.1 h1
theorem apr_up {V : Type} {c : List (List Tk)} {v : List V} (h : c.Pairwise ApR) (hl : c.length = v.length) : Up cmpT (c.zip v) := by
  have h1 : ((c.zip v).map (·.1)).Pairwise (fun x y => cmpT x y < 0) := by
    rw [List.map_fst_zip (by omega)]
    exact h.imp fun h => cmpT_lt.2 h.1
  exact List.pairwise_map.1 h1
theorem zip_inj {M V : Type} {s s' : List M} {v v' : List V} (hl : s.length = v.length) (hl' : s'.length = v'.length) (h : s.zip v = s'.zip v') : s = s' ∧ v = v' := by
  have h1 := congrArg (List.map (·.1)) h
  have h2 := congrArg (List.map (·.2)) h
  rw [List.map_fst_zip (by omega), List.map_fst_zip (by omega)] at h1
  rw [List.map_snd_zip (by omega), List.map_snd_zip (by omega)] at h2
  exact ⟨h1, h2⟩
/-- Of versions none has seen another one. -/
theorem apr_not {c : List (List Tk)} (h : c.Pairwise ApR) {a b : List Tk} (ha : a ∈ c) (hb : b ∈ c) : cmpC a b ≠ -1 := by
  induction c with
  | nil => cases ha
  | cons x c ih =>
    obtain ⟨h1, h2⟩ := List.pairwise_cons.1 h
    rcases List.mem_cons.1 ha with rfl | ha' <;> rcases List.mem_cons.1 hb with rfl | hb'
    · exact cmpC_irrefl _
    · rw [(h1 b hb').2]; decide
    · have := (h1 a ha').2
      unfold cmpC at this ⊢
      cases h3 : C3.underC b a <;> cases h4 : C3.underC a b <;> rw [h3, h4] at this <;> simp [C3.cmpB] at this ⊢
    · exact ih h2 ha' hb'

theorem ck_ok {x : Va} (h : isV (.mk 7 []) x = true) : isC (ckE x) = true ∧ (ckE x = [] → x = .zero) ∧ (ckE x ≠ [] → x = .mk 0 0 [] [ckE x] []) := by
  rcases isV_clock.1 h with rfl | ⟨c, rfl, h1, h2⟩
  · exact ⟨rfl, fun _ => rfl, fun h => absurd rfl h⟩
  · exact ⟨h1, fun h => absurd h h2, fun _ => rfl⟩

theorem leV_antisymm : ∀ (n : Nat) (t : Tr), isT n t = true → ∀ x y, isV t x = true → isV t y = true → Nn x → Nn y → leV t x y → leV t y x → x = y := by
  intro n
  induction n with
  | zero => intro t h; simp [isT] at h
  | succ n ih =>
    intro t h x y vx vy hx hy h1 h2
    obtain ⟨m, hm, h⟩ := isT_cases h
    obtain rfl : n = m := by omega
    rcases h with ⟨k, hk, rfl⟩ | ⟨k, a, hk, rfl, ha⟩ | ⟨a, b, rfl, ha, hb⟩
    · have num : ∀ {k : Int}, k = 1 ∨ k = 2 → isV (.mk k []) x = true → isV (.mk k []) y = true → leV (.mk k []) x y → leV (.mk k []) y x → x = y := fun hk vx vy h1 h2 => by
        obtain ⟨p, rfl, _⟩ := (isV_num hk).1 vx
        obtain ⟨q, rfl, _⟩ := (isV_num hk).1 vy
        rw [leV_num hk] at h1 h2
        simp only [Va.n] at h1 h2
        rw [Int.le_antisymm h1 h2]
      rcases hk with rfl | rfl | rfl | rfl | rfl
      · exact num (.inl rfl) vx vy h1 h2
      · exact num (.inr rfl) vx vy h1 h2
      · obtain ⟨s, rfl, h3, _⟩ := isV_set.1 vx
        obtain ⟨s', rfl, h4, _⟩ := isV_set.1 vy
        rw [leV_set] at h1 h2
        rw [R1.srt_ext h3 h4 fun z => ⟨h1 z, h2 z⟩]
      · rw [leV_last, writer_lex] at h1 h2
        have e := keyW_ok.le_antisymm h1 h2
        have form : ∀ {x : Va}, isV (.mk 6 []) x = true → x = .mk x.n x.m x.s [] [] := fun {x} h => by
          rcases isV_last.1 h with rfl | ⟨_, _, _, rfl, _⟩ <;> rfl
        rw [form vx, form vy]
        unfold keyW at e
        obtain ⟨e1, e2⟩ := Prod.mk.inj e
        obtain ⟨e2, e3⟩ := Prod.mk.inj e2
        rw [e1, e2, e3]
      · rw [leV_clock] at h1 h2
        obtain ⟨a1, a2, a3⟩ := ck_ok vx
        obtain ⟨b1, b2, b3⟩ := ck_ok vy
        have e : ckE x = ckE y := clock_ext a1 b1 fun q => Int.le_antisymm (under_of h1 hy.ck q) (under_of h2 hx.ck q)
        by_cases h0 : ckE x = []
        · rw [a2 h0, b2 (e ▸ h0)]
        · rw [a3 h0, b3 (e ▸ h0), e]
    · rcases hk with rfl | rfl
      · obtain ⟨s, v, rfl, s1, s2, s3, s4, s5⟩ := isV_map.1 vx
        obtain ⟨s', v', rfl, r1, r2, r3, r4, r5⟩ := isV_map.1 vy
        rw [leV_map] at h1 h2
        have sub : ∀ {s s' : List Str} {v v' : List Va}, R1.Srt s → R1.Srt s' → s.length = v.length → s'.length = v'.length → (∀ y ∈ v, isV a y = true ∧ y ≠ botT a) → (∀ y ∈ v', isV a y = true ∧ y ≠ botT a) → (∀ y ∈ v, Nn y) → (∀ y ∈ v', Nn y) → mapLe (leV a) (.mk 0 0 s [] v) (.mk 0 0 s' [] v') → mapLe (leV a) (.mk 0 0 s' [] v') (.mk 0 0 s [] v) → ∀ p, p ∈ s.zip v → p ∈ s'.zip v' :=
          fun {s s' v v'} s1 r1 s2 r2 s5 r5 n1 n2 h1 h2 p hp => by
            obtain ⟨q, hq, e, hl⟩ := h1 p hp
            obtain ⟨r, hr, e2, hl2⟩ := h2 q hq
            have : r = p := up_one cmpS_ok (srt_up s1 s2) hr hp (e2.trans e)
            subst this
            have : r.2 = q.2 := ih a ha _ _ (s5 _ (List.of_mem_zip hp).2).1 (r5 _ (List.of_mem_zip hq).2).1 (zip_nn n1 hp) (zip_nn n2 hq) hl hl2
            have : r = q := Prod.ext e.symm this
            rw [this]; exact hq
        have e := up_ext cmpS_ok (srt_up s1 s2) (srt_up r1 r2) fun p => ⟨sub s1 r1 s2 r2 s5 r5 hx.out.2.2.2 hy.out.2.2.2 h1 h2 p, sub r1 s1 r2 s2 r5 s5 hy.out.2.2.2 hx.out.2.2.2 h2 h1 p⟩
        obtain ⟨e1, e2⟩ := zip_inj s2 r2 e
        rw [e1, e2]
      · obtain ⟨s, v, rfl, s2, s3, s1, s4, s5⟩ := isV_cause.1 vx
        obtain ⟨s', v', rfl, r2, r3, r1, r4, r5⟩ := isV_cause.1 vy
        rw [leV_cause] at h1 h2
        have sub : ∀ {s s' : List (List Tk)} {v v' : List Va}, s.Pairwise ApR → s'.Pairwise ApR → s.length = v.length → s'.length = v'.length → (∀ y ∈ v, isV a y = true) → (∀ y ∈ v', isV a y = true) → Nn (.mk 0 0 [] s v) → Nn (.mk 0 0 [] s' v') → causeLe (leV a) (.mk 0 0 [] s v) (.mk 0 0 [] s' v') → causeLe (leV a) (.mk 0 0 [] s' v') (.mk 0 0 [] s v) → ∀ p, p ∈ s.zip v → p ∈ s'.zip v' :=
          fun {s s' v v'} s1 r1 s2 r2 s5 r5 n1 n2 h1 h2 p hp => by
            rcases h1 p hp with ⟨q, hq, hc⟩ | ⟨q, hq, e, hl⟩
            · rcases h2 q hq with ⟨r, hr, hc2⟩ | ⟨r, hr, e2, _⟩
              · exact absurd (cmpC_trans hc hc2 (n2.out.2.2.1 _ (List.of_mem_zip hq).1) (n1.out.2.2.1 _ (List.of_mem_zip hr).1)) (apr_not s1 (List.of_mem_zip hp).1 (List.of_mem_zip hr).1)
              · exact absurd (by rw [e2]; exact hc) (apr_not s1 (List.of_mem_zip hp).1 (List.of_mem_zip hr).1)
            · rcases h2 q hq with ⟨r, hr, hc2⟩ | ⟨r, hr, e2, hl2⟩
              · exact absurd (by rw [← e]; exact hc2) (apr_not s1 (List.of_mem_zip hp).1 (List.of_mem_zip hr).1)
              · have : r = p := up_one cmpT_ok (apr_up s1 s2) hr hp (e2.trans e)
                subst this
                have : r.2 = q.2 := ih a ha _ _ (s5 _ (List.of_mem_zip hp).2) (r5 _ (List.of_mem_zip hq).2) (zip_nn n1.out.2.2.2 hp) (zip_nn n2.out.2.2.2 hq) hl hl2
                have : r = q := Prod.ext e.symm this
                rw [this]; exact hq
        have e := up_ext cmpT_ok (apr_up s1 s2) (apr_up r1 r2) fun p => ⟨sub s1 r1 s2 r2 s5 r5 hx hy h1 h2 p, sub r1 s1 r2 s2 r5 s5 hy hx h2 h1 p⟩
        obtain ⟨e1, e2⟩ := zip_inj s2 r2 e
        rw [e1, e2]
    · obtain ⟨u, v, rfl, s1, s2⟩ := isV_pair.1 vx
      obtain ⟨u', v', rfl, r1, r2⟩ := isV_pair.1 vy
      rw [leV_pair] at h1 h2
      have e1 : u = u' := ih a ha u u' s1 r1 (hx.half 0) (hy.half 0) h1.1 h2.1
      have e2 : v = v' := ih b hb v v' s2 r2 (hx.half 1) (hy.half 1) h1.2 h2.2
      rw [e1, e2]
end Go.Proofs.YtleejffjnknohaaGreat.J5

namespace Go.Proofs.YtleejffjnknohaaGreat.J5
open C3 (Tk isC isC_out isC_mk Asc ofC underC cmpC mergeC mergeC_nil_left mergeC_nil_right)
open S2 (Tr isT)
open V4 (Va isV botT ApR isT_le shortV)

/-- z is the least that is not less than x, y. -/
structure Lub (t : Tr) (x y z : Va) : Prop where
  is : isV t z = true
  nn : Nn z
  left : leV t x z
  right : leV t y z
  least : ∀ u, isV t u = true → Nn u → leV t x u → leV t y u → leV t z u

theorem allE_has {M V W : Type} {f : V → V → Option W} : ∀ {l : List (M × V × V)} {r : List (M × W)}, allE f l = some r → ∀ q ∈ l, ∃ w, f q.2.1 q.2.2 = some w
  | [], _, _, q, hq => by cases hq
  | p :: l, r, h, q, hq => by
    rw [allE] at h
    cases hf : f p.2.1 p.2.2 with
    | none => rw [hf] at h; simp at h
    | some v =>
      rw [hf] at h
      cases ha : allE f l with
      | none => rw [ha] at h; simp at h
      | some x =>
        rcases List.mem_cons.1 hq with rfl | hq
        · exact ⟨v, hf⟩
        · exact allE_has ha q hq

/-- There is one that none has seen. -/
theorem top_of {α : Type} {R : α → α → Prop} {P : α → Prop} (ht : ∀ x y z, P x → P y → P z → R x y → R y z → R x z) (hi : ∀ x, ¬ R x x) : ∀ (l : List α) (o : α), P o → (∀ k ∈ l, P k) → ∃ m, (m = o ∨ (m ∈ l ∧ R o m)) ∧ ∀ k ∈ l, ¬ R m k
  | [], o, _, _ => ⟨o, .inl rfl, fun _ h => by cases h⟩
  | k :: l, o, ho, hl => by
    have hk := hl k (by simp)
    have hl' : ∀ j ∈ l, P j := fun j hj => hl j (by simp [hj])
    by_cases h : R o k
    · obtain ⟨m, h1, h2⟩ := top_of ht hi l k hk hl'
      have hm : P m := by rcases h1 with rfl | ⟨h1, _⟩; exact hk; exact hl' m h1
      refine ⟨m, .inr ?_, fun j hj => ?_⟩
      · rcases h1 with rfl | ⟨h1, h3⟩
        · exact ⟨by simp, h⟩
        · exact ⟨by simp [h1], ht _ _ _ ho hk hm h h3⟩
      · rcases List.mem_cons.1 hj with rfl | hj
        · rcases h1 with rfl | ⟨h1, h3⟩
          · exact hi _
          · exact fun h4 => hi _ (ht _ _ _ hk hm hk h3 h4)
        · exact h2 j hj
    · obtain ⟨m, h1, h2⟩ := top_of ht hi l o ho hl'
      have hm : P m := by rcases h1 with rfl | ⟨h1, _⟩; exact ho; exact hl' m h1
      refine ⟨m, ?_, fun j hj => ?_⟩
      · rcases h1 with h1 | ⟨h1, h3⟩
        · exact .inl h1
        · exact .inr ⟨by simp [h1], h3⟩
      · rcases List.mem_cons.1 hj with rfl | hj
        · rcases h1 with rfl | ⟨h1, h3⟩
          · exact h
          · exact fun h4 => h (ht _ _ _ ho hm hk h3 h4)
        · exact h2 j hj

theorem lub_num {k : Int} (hk : k = 1 ∨ k = 2) {x y z : Va} (vx : isV (.mk k []) x = true) (vy : isV (.mk k []) y = true) (hx : Nn x) (hy : Nn y) (h : joinE (.mk k []) x y = some z) : Lub (.mk k []) x y z := by
  rw [joinE, if_neg (by omega), if_neg (by omega), if_neg (by omega)] at h
  obtain rfl := Option.some.inj h
  obtain ⟨p, rfl, h1⟩ := (isV_num hk).1 vx
  obtain ⟨q, rfl, h2⟩ := (isV_num hk).1 vy
  have := hx.out.1
  have := hy.out.1
  simp only [Va.n] at *
  refine ⟨(isV_num hk).2 ⟨_, rfl, fun e => by have := h1 e; have := h2 e; omega⟩, .mk _ _ _ _ _ (by omega) (by decide) (fun _ h => by cases h) (fun _ h => by cases h), (leV_num hk _ _).2 (by simp only [Va.n]; omega), (leV_num hk _ _).2 (by simp only [Va.n]; omega), fun u _ _ h3 h4 => ?_⟩
  rw [leV_num hk] at *
  simp only [Va.n] at *
  omega

theorem lub_set {x y z : Va} (vx : isV (.mk 3 []) x = true) (vy : isV (.mk 3 []) y = true) (h : joinE (.mk 3 []) x y = some z) : Lub (.mk 3 []) x y z := by
  rw [joinE, if_pos rfl] at h
  obtain ⟨s, rfl, a1, a2, a3⟩ := isV_set.1 vx
  obtain ⟨s', rfl, b1, b2, b3⟩ := isV_set.1 vy
  replace h : (if 40 < (R1.bothL s s').length then none else some (Va.mk 0 0 (R1.bothL s s') [] [])) = some z := h
  split at h
  · cases h
  · rename_i hl
    obtain rfl := Option.some.inj h
    refine ⟨isV_set.2 ⟨_, rfl, R1.srt_bothL a1, by omega, ?_⟩, .mk _ _ _ _ _ (by decide) (by decide) (fun _ h => by cases h) (fun _ h => by cases h), (leV_set _ _).2 fun t ht => R1.mem_bothL.2 (.inl ht), (leV_set _ _).2 fun t ht => R1.mem_bothL.2 (.inr ht), fun u _ _ h3 h4 => ?_⟩
    · unfold shortV at *
      refine List.all_eq_true.2 fun t ht => ?_
      rcases R1.mem_bothL.1 ht with h | h
      · exact List.all_eq_true.1 a3 t h
      · exact List.all_eq_true.1 b3 t h
    · rw [leV_set] at *
      intro t ht
      rcases R1.mem_bothL.1 ht with h | h
      · exact h3 t h
      · exact h4 t h

theorem lub_last {x y z : Va} (vx : isV (.mk 6 []) x = true) (vy : isV (.mk 6 []) y = true) (hx : Nn x) (hy : Nn y) (h : joinE (.mk 6 []) x y = some z) : Lub (.mk 6 []) x y z := by
  have form : ∀ {x : Va}, isV (.mk 6 []) x = true → Va.mk x.n x.m x.s [] [] = x := fun {x} h => by
    rcases isV_last.1 h with rfl | ⟨_, _, _, rfl, _⟩ <;> rfl
  rw [joinE, if_neg (by decide), if_pos rfl] at h
  unfold lastE at h
  rw [form vx, form vy] at h
  have refl : ∀ x, leV (.mk 6 []) x x := fun x => (leV_last _ _).2 (by rw [writer_lex, keyW_ok.refl]; decide)
  split at h
  · rename_i hl
    obtain rfl := Option.some.inj h
    exact ⟨vy, hy, (leV_last _ _).2 (by omega), refl _, fun u _ _ _ h4 => h4⟩
  · rename_i hl
    obtain rfl := Option.some.inj h
    refine ⟨vx, hx, refl _, (leV_last _ _).2 ?_, fun u _ _ h3 _ => h3⟩
    rw [writer_lex] at hl ⊢
    rcases Int.lt_or_eq_of_le (show 0 ≤ _ from Int.not_lt.1 hl) with h | h
    · exact Int.le_of_lt (keyW_ok.gt h)
    · rw [keyW_ok.eq h.symm, keyW_ok.refl]; decide

theorem clock_fold {x y : Va} (vx : isV (.mk 7 []) x = true) (vy : isV (.mk 7 []) y = true) : (x.c ++ y.c).foldl mergeC [] = mergeC (ckE x) (ckE y) := by
  rcases isV_clock.1 vx with rfl | ⟨c, rfl, _, _⟩ <;> rcases isV_clock.1 vy with rfl | ⟨d, rfl, _, _⟩ <;> simp [Va.zero, Va.c, ckE, mergeC_nil_left, mergeC_nil_right]

theorem lub_clock {x y z : Va} (vx : isV (.mk 7 []) x = true) (vy : isV (.mk 7 []) y = true) (hx : Nn x) (hy : Nn y) (h : joinE (.mk 7 []) x y = some z) : Lub (.mk 7 []) x y z := by
  rw [joinE, if_neg (by decide), if_neg (by decide), if_pos rfl] at h
  unfold clockE at h
  rw [clock_fold vx vy] at h
  obtain ⟨a1, _, _⟩ := ck_ok vx
  obtain ⟨b1, _, _⟩ := ck_ok vy
  obtain ⟨a1, a2, a3⟩ := isC_out a1
  obtain ⟨b1, b2, b3⟩ := isC_out b1
  have na := hx.ck
  have nb := hy.ck
  have hof := ofC_merge _ _ a2 b2 na nb
  have hasc := merge_asc _ _ a2 b2
  have hz : ckE z = mergeC (ckE x) (ckE y) ∧ isV (.mk 7 []) z = true ∧ Nn z := by
    split at h
    · rename_i h0
      obtain rfl := Option.some.inj h
      exact ⟨h0.symm, isV_clock.2 (.inl rfl), .zero⟩
    · rename_i h0
      split at h
      · cases h
      · rename_i hl
        obtain rfl := Option.some.inj h
        refine ⟨rfl, isV_clock.2 (.inr ⟨_, rfl, isC_mk (by omega) hasc fun t ht => ?_, h0⟩), .mk _ _ _ _ _ (by decide) (by decide) (fun k hk => ?_) (fun _ h => by cases h)⟩
        · rcases mem_merge _ _ ht with h | h
          · exact a3 t h
          · exact b3 t h
        · simp only [List.mem_cons, List.not_mem_nil, or_false] at hk
          subst hk
          intro t ht
          rcases mem_merge _ _ ht with h | h
          · exact na t h
          · exact nb t h
  obtain ⟨z1, z2, z3⟩ := hz
  refine ⟨z2, z3, (leV_clock _ _).2 ?_, (leV_clock _ _).2 ?_, fun u vu nu h3 h4 => ?_⟩
  · rw [z1]; exact under_mk a2 fun q => by rw [hof q]; omega
  · rw [z1]; exact under_mk b2 fun q => by rw [hof q]; omega
  · rw [leV_clock] at *
    rw [z1]
    refine under_mk hasc fun q => ?_
    rw [hof q]
    have := under_of h3 nu.ck q
    have := under_of h4 nu.ck q
    omega

/-- What comes of what stands at each mark. -/
theorem tog_out {M : Type} {f : Va → Va → Option Va} {l : List (M × Va × Va)} {r : List (M × Va)} (h : togE f l = some r) : l.length ≤ 40 ∧ allE f l = some r := by
  unfold togE at h
  split at h
  · cases h
  · exact ⟨by omega, h⟩

theorem lub_map {a : Tr} {n : Nat} (hn : n ≤ 16) (ha : isT n a = true)
    (ih : ∀ x y z, OkV a x → OkV a y → (isV a x = true ∨ isV a y = true) → Nn x → Nn y → joinE a x y = some z → Lub a x y z) {x y z : Va} (vx : isV (.mk 4 [a]) x = true) (vy : isV (.mk 4 [a]) y = true) (hx : Nn x) (hy : Nn y) (h : joinE (.mk 4 [a]) x y = some z) : Lub (.mk 4 [a]) x y z := by
  rw [joinE, if_pos rfl] at h
  unfold mapE at h
  obtain ⟨s, v, rfl, a1, a2, a3, a4, a5⟩ := isV_map.1 vx
  obtain ⟨s', v', rfl, b1, b2, b3, b4, b5⟩ := isV_map.1 vy
  simp only [Va.s, Va.v] at h
  obtain ⟨r, hr, rfl⟩ := Option.map_eq_some_iff.1 h
  obtain ⟨h40, hall⟩ := tog_out hr
  have ux := srt_up a1 a2
  have uy := srt_up b1 b2
  have hmem := mem_mix (z := Va.zero) cmpS_ok _ _ ux uy
  have hmk := togE_marks' hall
  have hup : Up cmpS r := up_of_marks hmk (mix_up (z := Va.zero) cmpS_ok _ _ ux uy)
  have nx := hx.out.2.2.2
  have ny := hy.out.2.2.2
  simp only [Va.v] at nx ny
  -- what stands at a mark
  have part : ∀ q ∈ mix cmpS Va.zero (s.zip v) (s'.zip v'), ∀ w, joinE a q.2.1 q.2.2 = some w → Lub a q.2.1 q.2.2 w ∧ w ≠ botT a ∧ (q.1 ∈ s ∨ q.1 ∈ s') := fun q hq w hw => by
    have bot : ∀ {p w : Va}, isV a p = true → p ≠ botT a → Nn p → leV a p w → w ≠ botT a := fun vp hp np hl e => by
      subst e
      exact hp (leV_antisymm n a ha _ _ vp (isV_bot n a hn ha) np (Nn.bot n a hn ha) hl (leV_bot n a hn ha _ np))
    rcases (hmem q).1 hq with ⟨h1, h2⟩ | ⟨h1, _, h2⟩ | ⟨_, h1, h2⟩
    · have o1 := List.of_mem_zip h1
      have o2 := List.of_mem_zip h2
      have L := ih _ _ _ (.inl (a5 _ o1.2).1) (.inl (b5 _ o2.2).1) (.inl (a5 _ o1.2).1) (nx _ o1.2) (ny _ o2.2) hw
      exact ⟨L, bot (a5 _ o1.2).1 (a5 _ o1.2).2 (nx _ o1.2) L.left, .inl o1.1⟩
    · have o1 := List.of_mem_zip h1
      have L := ih _ _ _ (.inl (a5 _ o1.2).1) (.inr h2) (.inl (a5 _ o1.2).1) (nx _ o1.2) (by rw [h2]; exact .zero) hw
      exact ⟨L, bot (a5 _ o1.2).1 (a5 _ o1.2).2 (nx _ o1.2) L.left, .inl o1.1⟩
    · have o2 := List.of_mem_zip h2
      have L := ih _ _ _ (.inr h1) (.inl (b5 _ o2.2).1) (.inr (b5 _ o2.2).1) (by rw [h1]; exact .zero) (ny _ o2.2) hw
      exact ⟨L, bot (b5 _ o2.2).1 (b5 _ o2.2).2 (ny _ o2.2) L.right, .inr o2.1⟩
  have rel : ∀ p ∈ r, ∃ q ∈ mix cmpS Va.zero (s.zip v) (s'.zip v'), q.1 = p.1 ∧ joinE a q.2.1 q.2.2 = some p.2 := fun p hp => (mem_allE hall p).1 hp
  refine ⟨isV_map.2 ⟨_, _, rfl, ?_, by simp, ?_, ?_, ?_⟩, .mk _ _ _ _ _ (by decide) (by decide) (fun _ h => by cases h) ?_, (leV_map _ _ _).2 ?_, (leV_map _ _ _).2 ?_, fun u vu nu h3 h4 => (leV_map _ _ _).2 ?_⟩
  · refine ((List.pairwise_map (R := fun x y => cmpS x y < 0) (f := fun p : Str × Va => p.1)).2 hup).imp fun {x y} h => ?_
    unfold cmpS at h
    by_cases h1 : x < y
    · exact h1
    · rw [if_neg h1] at h
      split at h <;> omega
  · rw [List.length_map, allE_len hall]; exact h40
  · unfold shortV at *
    refine List.all_eq_true.2 fun t ht => ?_
    obtain ⟨p, hp, rfl⟩ := List.mem_map.1 ht
    obtain ⟨q, hq, e, hw⟩ := rel p hp
    rw [← e]
    rcases (part q hq _ hw).2.2 with h | h
    · exact List.all_eq_true.1 a4 _ h
    · exact List.all_eq_true.1 b4 _ h
  · intro w hw
    obtain ⟨p, hp, rfl⟩ := List.mem_map.1 hw
    obtain ⟨q, hq, _, hw⟩ := rel p hp
    exact ⟨(part q hq _ hw).1.is, (part q hq _ hw).2.1⟩
  · intro w hw
    obtain ⟨p, hp, rfl⟩ := List.mem_map.1 hw
    obtain ⟨q, hq, _, hw⟩ := rel p hp
    exact (part q hq _ hw).1.nn
  · intro p hp
    simp only [Va.s, Va.v] at hp ⊢
    rw [zip_parts]
    obtain ⟨q, hq, e, e2⟩ : ∃ q ∈ mix cmpS Va.zero (s.zip v) (s'.zip v'), q.1 = p.1 ∧ q.2.1 = p.2 := by
      by_cases h : ∃ q ∈ s'.zip v', q.1 = p.1
      · obtain ⟨q, hq, e⟩ := h
        exact ⟨(p.1, p.2, q.2), (hmem _).2 (.inl ⟨hp, by rw [← e]; exact hq⟩), rfl, rfl⟩
      · exact ⟨(p.1, p.2, Va.zero), (hmem _).2 (.inr (.inl ⟨hp, fun q hq e => h ⟨q, hq, e⟩, rfl⟩)), rfl, rfl⟩
    obtain ⟨w, hw⟩ := allE_has hall q hq
    refine ⟨(q.1, w), (mem_allE hall _).2 ⟨q, hq, rfl, hw⟩, e, ?_⟩
    rw [← e2]; exact (part q hq w hw).1.left
  · intro p hp
    simp only [Va.s, Va.v] at hp ⊢
    rw [zip_parts]
    obtain ⟨q, hq, e, e2⟩ : ∃ q ∈ mix cmpS Va.zero (s.zip v) (s'.zip v'), q.1 = p.1 ∧ q.2.2 = p.2 := by
      by_cases h : ∃ q ∈ s.zip v, q.1 = p.1
      · obtain ⟨q, hq, e⟩ := h
        exact ⟨(p.1, q.2, p.2), (hmem _).2 (.inl ⟨by rw [← e]; exact hq, hp⟩), rfl, rfl⟩
      · exact ⟨(p.1, Va.zero, p.2), (hmem _).2 (.inr (.inr ⟨fun q hq e => h ⟨q, hq, e⟩, rfl, hp⟩)), rfl, rfl⟩
    obtain ⟨w, hw⟩ := allE_has hall q hq
    refine ⟨(q.1, w), (mem_allE hall _).2 ⟨q, hq, rfl, hw⟩, e, ?_⟩
    rw [← e2]; exact (part q hq w hw).1.right
  · obtain ⟨su, vu', rfl, u1, u2, u3, u4, u5⟩ := isV_map.1 vu
    have nu' := nu.out.2.2.2
    simp only [Va.v] at nu'
    rw [leV_map] at h3 h4
    intro p hp
    simp only [Va.s, Va.v] at hp ⊢
    rw [zip_parts] at hp
    obtain ⟨q, hq, e, hw⟩ := rel p hp
    have L := (part q hq _ hw).1
    rcases (hmem q).1 hq with ⟨i1, i2⟩ | ⟨i1, _, i2⟩ | ⟨_, i1, i2⟩
    · obtain ⟨t1, ht1, e1, l1⟩ := h3 _ i1
      obtain ⟨t2, ht2, e2, l2⟩ := h4 _ i2
      simp only [Va.s, Va.v] at ht1 ht2
      obtain rfl := up_one cmpS_ok (srt_up u1 u2) ht1 ht2 (e1.trans e2.symm)
      exact ⟨t1, ht1, e1.trans e, L.least _ (u5 _ (List.of_mem_zip ht1).2).1 (nu' _ (List.of_mem_zip ht1).2) l1 l2⟩
    · obtain ⟨t1, ht1, e1, l1⟩ := h3 _ i1
      simp only [Va.s, Va.v] at ht1
      exact ⟨t1, ht1, e1.trans e, L.least _ (u5 _ (List.of_mem_zip ht1).2).1 (nu' _ (List.of_mem_zip ht1).2) l1 (by rw [i2]; exact leV_zero n a ha _ (nu' _ (List.of_mem_zip ht1).2))⟩
    · obtain ⟨t1, ht1, e1, l1⟩ := h4 _ i2
      simp only [Va.s, Va.v] at ht1
      exact ⟨t1, ht1, e1.trans e, L.least _ (u5 _ (List.of_mem_zip ht1).2).1 (nu' _ (List.of_mem_zip ht1).2) (by rw [i1]; exact leV_zero n a ha _ (nu' _ (List.of_mem_zip ht1).2)) l1⟩

theorem lub_cause {a : Tr} {n : Nat} (ha : isT n a = true)
    (ih : ∀ x y z, OkV a x → OkV a y → (isV a x = true ∨ isV a y = true) → Nn x → Nn y → joinE a x y = some z → Lub a x y z) {x y z : Va} (vx : isV (.mk 8 [a]) x = true) (vy : isV (.mk 8 [a]) y = true) (hx : Nn x) (hy : Nn y) (h : joinE (.mk 8 [a]) x y = some z) : Lub (.mk 8 [a]) x y z := by
  rw [joinE, if_neg (by decide)] at h
  unfold causeE at h
  obtain ⟨s, v, rfl, a2, a3, a1, a4, a5⟩ := isV_cause.1 vx
  obtain ⟨s', v', rfl, b2, b3, b1, b4, b5⟩ := isV_cause.1 vy
  simp only [Va.c, Va.v] at h
  obtain ⟨r, hr, rfl⟩ := Option.map_eq_some_iff.1 h
  obtain ⟨h40, hall⟩ := tog_out hr
  have ux := apr_up a1 a2
  have uy := apr_up b1 b2
  have hmem := mem_mix (z := Va.zero) cmpT_ok _ _ ux uy
  have hmk := togE_marks' hall
  have hup : Up cmpT r := up_of_marks hmk ((mix_up (z := Va.zero) cmpT_ok _ _ ux uy).filter _)
  have nx := hx.out.2.2.2
  have ny := hy.out.2.2.2
  have kx := hx.out.2.2.1
  have ky := hy.out.2.2.1
  simp only [Va.v, Va.c] at nx ny kx ky
  have kc : ∀ k ∈ s ++ s', isC k = true ∧ NnC k := fun k hk => by
    rcases List.mem_append.1 hk with h | h
    · exact ⟨a4 k h, kx k h⟩
    · exact ⟨b4 k h, ky k h⟩
  have unseen : ∀ {k : List Tk}, (!seenE k (s ++ s')) = true → ∀ o ∈ s ++ s', cmpC k o ≠ -1 := fun {k} h o ho e => by
    unfold seenE at h
    simp only [Bool.not_eq_true', List.any_eq_false, decide_eq_true_eq] at h
    exact h o ho e
  have toseen : ∀ {k : List Tk}, (∀ o ∈ s ++ s', cmpC k o ≠ -1) → (!seenE k (s ++ s')) = true := fun {k} h => by
    unfold seenE
    simp only [Bool.not_eq_true', List.any_eq_false, decide_eq_true_eq]
    exact h
  -- what stands at a mark
  have part : ∀ q ∈ mix cmpT Va.zero (s.zip v) (s'.zip v'), (∀ w, joinE a q.2.1 q.2.2 = some w → Lub a q.2.1 q.2.2 w) ∧ q.1 ∈ s ++ s' := fun q hq => by
    rcases (hmem q).1 hq with ⟨h1, h2⟩ | ⟨h1, _, h2⟩ | ⟨_, h1, h2⟩
    · have o1 := List.of_mem_zip h1
      have o2 := List.of_mem_zip h2
      exact ⟨fun w hw => ih _ _ _ (.inl (a5 _ o1.2)) (.inl (b5 _ o2.2)) (.inl (a5 _ o1.2)) (nx _ o1.2) (ny _ o2.2) hw, List.mem_append.2 (.inl o1.1)⟩
    · have o1 := List.of_mem_zip h1
      exact ⟨fun w hw => ih _ _ _ (.inl (a5 _ o1.2)) (.inr h2) (.inl (a5 _ o1.2)) (nx _ o1.2) (by rw [h2]; exact .zero) hw, List.mem_append.2 (.inl o1.1)⟩
    · have o2 := List.of_mem_zip h2
      exact ⟨fun w hw => ih _ _ _ (.inr h1) (.inl (b5 _ o2.2)) (.inr (b5 _ o2.2)) (by rw [h1]; exact .zero) (ny _ o2.2) hw, List.mem_append.2 (.inr o2.1)⟩
  have rel : ∀ p ∈ r, ∃ q ∈ mix cmpT Va.zero (s.zip v) (s'.zip v'), q.1 = p.1 ∧ joinE a q.2.1 q.2.2 = some p.2 ∧ ∀ o ∈ s ++ s', cmpC p.1 o ≠ -1 := fun p hp => by
    obtain ⟨q, hq, e, hw⟩ := (mem_allE hall p).1 hp
    obtain ⟨h1, h2⟩ := List.mem_filter.1 hq
    exact ⟨q, h1, e, hw, e ▸ unseen h2⟩
  have mark : ∀ p ∈ r, p.1 ∈ s ++ s' := fun p hp => by
    obtain ⟨q, hq, e, _⟩ := rel p hp
    rw [← e]; exact (part q hq).2
  -- each mark is there
  have lft : ∀ p ∈ s.zip v, ∃ q ∈ mix cmpT Va.zero (s.zip v) (s'.zip v'), q.1 = p.1 ∧ q.2.1 = p.2 := fun p hp => by
    by_cases h : ∃ q ∈ s'.zip v', q.1 = p.1
    · obtain ⟨q, hq, e⟩ := h
      exact ⟨(p.1, p.2, q.2), (hmem _).2 (.inl ⟨hp, by rw [← e]; exact hq⟩), rfl, rfl⟩
    · exact ⟨(p.1, p.2, Va.zero), (hmem _).2 (.inr (.inl ⟨hp, fun q hq e => h ⟨q, hq, e⟩, rfl⟩)), rfl, rfl⟩
  have rgt : ∀ p ∈ s'.zip v', ∃ q ∈ mix cmpT Va.zero (s.zip v) (s'.zip v'), q.1 = p.1 ∧ q.2.2 = p.2 := fun p hp => by
    by_cases h : ∃ q ∈ s.zip v, q.1 = p.1
    · obtain ⟨q, hq, e⟩ := h
      exact ⟨(p.1, q.2, p.2), (hmem _).2 (.inl ⟨by rw [← e]; exact hq, hp⟩), rfl, rfl⟩
    · exact ⟨(p.1, Va.zero, p.2), (hmem _).2 (.inr (.inr ⟨fun q hq e => h ⟨q, hq, e⟩, rfl, hp⟩)), rfl, rfl⟩
  have stays : ∀ q ∈ mix cmpT Va.zero (s.zip v) (s'.zip v'), (∀ o ∈ s ++ s', cmpC q.1 o ≠ -1) → ∃ w, (q.1, w) ∈ r ∧ joinE a q.2.1 q.2.2 = some w := fun q hq hs => by
    have hf := List.mem_filter (p := fun p : List Tk × Va × Va => !seenE p.1 (s ++ s')) |>.2 ⟨hq, toseen hs⟩
    obtain ⟨w, hw⟩ := allE_has hall q hf
    exact ⟨w, (mem_allE hall _).2 ⟨q, hf, rfl, hw⟩, hw⟩
  have memzip : ∀ {s : List (List Tk)} {v : List Va}, s.length = v.length → ∀ k ∈ s, ∃ p ∈ s.zip v, p.1 = k := fun {s v} hl k hk => by
    have : k ∈ (s.zip v).map (·.1) := by rw [List.map_fst_zip (by omega)]; exact hk
    obtain ⟨p, hp, e⟩ := List.mem_map.1 this
    exact ⟨p, hp, e⟩
  have above : ∀ k ∈ s ++ s', (∃ o ∈ s ++ s', cmpC k o = -1) → ∃ p ∈ r, cmpC k p.1 = -1 := fun k hk => by
    rintro ⟨o, ho, hko⟩
    obtain ⟨m, h1, h2⟩ := top_of (R := fun a b => cmpC a b = -1) (P := fun k => k ∈ s ++ s') (fun x y z hx hy hz h1 h2 => cmpC_trans h1 h2 (kc y hy).2 (kc z hz).2) cmpC_irrefl (s ++ s') o ho fun _ h => h
    have hm : m ∈ s ++ s' := by rcases h1 with rfl | ⟨h1, _⟩; exact ho; exact h1
    have hkm : cmpC k m = -1 := by
      rcases h1 with rfl | ⟨_, h1⟩
      · exact hko
      · exact cmpC_trans hko h1 (kc o ho).2 (kc m hm).2
    obtain ⟨q, hq, e⟩ : ∃ q ∈ mix cmpT Va.zero (s.zip v) (s'.zip v'), q.1 = m := by
      rcases List.mem_append.1 hm with h | h
      · obtain ⟨p, hp, e⟩ := memzip a2 m h
        obtain ⟨q, hq, e2, _⟩ := lft p hp
        exact ⟨q, hq, e2.trans e⟩
      · obtain ⟨p, hp, e⟩ := memzip b2 m h
        obtain ⟨q, hq, e2, _⟩ := rgt p hp
        exact ⟨q, hq, e2.trans e⟩
    obtain ⟨w, hw, _⟩ := stays q hq (by rw [e]; exact h2)
    exact ⟨_, hw, by rw [e]; exact hkm⟩
  refine ⟨isV_cause.2 ⟨_, _, rfl, by simp, ?_, ?_, ?_, ?_⟩, .mk _ _ _ _ _ (by decide) (by decide) ?_ ?_, (leV_cause _ _ _).2 ?_, (leV_cause _ _ _).2 ?_, fun u vu nu h3 h4 => (leV_cause _ _ _).2 ?_⟩
  · rw [List.length_map, allE_len hall]; exact h40
  · refine List.pairwise_map.2 (List.Pairwise.imp_of_mem (fun {p q} hp hq h => ?_) hup)
    refine ⟨cmpT_lt.1 h, ?_⟩
    obtain ⟨_, _, _, _, p2⟩ := rel p hp
    obtain ⟨_, _, _, _, q2⟩ := rel q hq
    have c1 := p2 q.1 (mark q hq)
    have c2 := q2 p.1 (mark p hp)
    have hne : p.1 ≠ q.1 := cmpT_ok.ne h
    have c0 : ¬ (underC p.1 q.1 = true ∧ underC q.1 p.1 = true) := fun ⟨h1, h2⟩ =>
      hne (clock_ext (kc _ (mark p hp)).1 (kc _ (mark q hq)).1 fun t => Int.le_antisymm (under_of h1 (kc _ (mark q hq)).2 t) (under_of h2 (kc _ (mark p hp)).2 t))
    unfold cmpC at c1 c2 ⊢
    cases h1 : underC p.1 q.1 <;> cases h2 : underC q.1 p.1 <;> rw [h1, h2] at c0 c1 <;> rw [h1, h2] at c2 <;> simp [C3.cmpB] at c0 c1 c2 ⊢
  · intro k hk
    obtain ⟨p, hp, rfl⟩ := List.mem_map.1 hk
    exact (kc _ (mark p hp)).1
  · intro w hw
    obtain ⟨p, hp, rfl⟩ := List.mem_map.1 hw
    obtain ⟨q, hq, _, hw, _⟩ := rel p hp
    exact ((part q hq).1 _ hw).is
  · intro k hk
    obtain ⟨p, hp, rfl⟩ := List.mem_map.1 hk
    exact (kc _ (mark p hp)).2
  · intro w hw
    obtain ⟨p, hp, rfl⟩ := List.mem_map.1 hw
    obtain ⟨q, hq, _, hw, _⟩ := rel p hp
    exact ((part q hq).1 _ hw).nn
  · intro p hp
    simp only [Va.c, Va.v] at hp ⊢
    rw [zip_parts]
    obtain ⟨q, hq, e, e2⟩ := lft p hp
    by_cases hs : ∃ o ∈ s ++ s', cmpC p.1 o = -1
    · exact .inl (above p.1 (e ▸ (part q hq).2) hs)
    · obtain ⟨w, hw, hj⟩ := stays q hq (by rw [e]; exact fun o ho h => hs ⟨o, ho, h⟩)
      exact .inr ⟨_, hw, e, by rw [← e2]; exact ((part q hq).1 w hj).left⟩
  · intro p hp
    simp only [Va.c, Va.v] at hp ⊢
    rw [zip_parts]
    obtain ⟨q, hq, e, e2⟩ := rgt p hp
    by_cases hs : ∃ o ∈ s ++ s', cmpC p.1 o = -1
    · exact .inl (above p.1 (e ▸ (part q hq).2) hs)
    · obtain ⟨w, hw, hj⟩ := stays q hq (by rw [e]; exact fun o ho h => hs ⟨o, ho, h⟩)
      exact .inr ⟨_, hw, e, by rw [← e2]; exact ((part q hq).1 w hj).right⟩
  · obtain ⟨su, vu', rfl, u2, u3, u1, u4, u5⟩ := isV_cause.1 vu
    have nu' := nu.out.2.2.2
    simp only [Va.v] at nu'
    rw [leV_cause] at h3 h4
    intro p hp
    simp only [Va.c, Va.v] at hp ⊢
    rw [zip_parts] at hp
    obtain ⟨q, hq, e, hw, _⟩ := rel p hp
    have L := (part q hq).1 _ hw
    rw [← e]
    rcases (hmem q).1 hq with ⟨i1, i2⟩ | ⟨i1, _, i2⟩ | ⟨_, i1, i2⟩
    · rcases h3 _ i1 with h | ⟨t1, ht1, e1, l1⟩
      · exact .inl h
      · rcases h4 _ i2 with h | ⟨t2, ht2, e2, l2⟩
        · exact .inl h
        · simp only [Va.c, Va.v] at ht1 ht2
          obtain rfl := up_one cmpT_ok (apr_up u1 u2) ht1 ht2 (e1.trans e2.symm)
          exact .inr ⟨t1, ht1, e1, L.least _ (u5 _ (List.of_mem_zip ht1).2) (nu' _ (List.of_mem_zip ht1).2) l1 l2⟩
    · rcases h3 _ i1 with h | ⟨t1, ht1, e1, l1⟩
      · exact .inl h
      · simp only [Va.c, Va.v] at ht1
        exact .inr ⟨t1, ht1, e1, L.least _ (u5 _ (List.of_mem_zip ht1).2) (nu' _ (List.of_mem_zip ht1).2) l1 (by rw [i2]; exact leV_zero n a ha _ (nu' _ (List.of_mem_zip ht1).2))⟩
    · rcases h4 _ i2 with h | ⟨t1, ht1, e1, l1⟩
      · exact .inl h
      · simp only [Va.c, Va.v] at ht1
        exact .inr ⟨t1, ht1, e1, L.least _ (u5 _ (List.of_mem_zip ht1).2) (nu' _ (List.of_mem_zip ht1).2) (by rw [i1]; exact leV_zero n a ha _ (nu' _ (List.of_mem_zip ht1).2)) l1⟩
/-- Both together: the least that is not less than either. -/
theorem lub_of : ∀ (n : Nat) (t : Tr), n ≤ 16 → isT n t = true → ∀ x y z, OkV t x → OkV t y → (isV t x = true ∨ isV t y = true) → Nn x → Nn y → joinE t x y = some z → Lub t x y z := by
  intro n
  induction n with
  | zero => intro t _ h; simp [isT] at h
  | succ n ih =>
    intro t hn ht x y z ox oy one hx hy h
    obtain ⟨m, hm, hc⟩ := isT_cases ht
    obtain rfl : n = m := by omega
    rcases hc with ⟨k, hk, rfl⟩ | ⟨k, a, hk, rfl, ha⟩ | ⟨a, b, rfl, ha, hb⟩
    · have h5 : (Tr.mk k []).k ≠ 5 := by simp only [Tr.k]; omega
      have all : ∀ {x}, OkV (.mk k []) x → isV (.mk k []) x = true := fun {x} o => o.elim id fun e => e ▸ isV_zero hn ht h5
      have vx := all ox
      have vy := all oy
      rcases hk with rfl | rfl | rfl | rfl | rfl
      · exact lub_num (.inl rfl) vx vy hx hy h
      · exact lub_num (.inr rfl) vx vy hx hy h
      · exact lub_set vx vy h
      · exact lub_last vx vy hx hy h
      · exact lub_clock vx vy hx hy h
    · have h5 : (Tr.mk k [a]).k ≠ 5 := by simp only [Tr.k]; omega
      have all : ∀ {x}, OkV (.mk k [a]) x → isV (.mk k [a]) x = true := fun {x} o => o.elim id fun e => e ▸ isV_zero hn ht h5
      have vx := all ox
      have vy := all oy
      rcases hk with rfl | rfl
      · exact lub_map (by omega) ha (ih a (by omega) ha) vx vy hx hy h
      · exact lub_cause ha (ih a (by omega) ha) vx vy hx hy h
    · rw [joinE] at h
      unfold pairE at h
      obtain ⟨u, hu, h⟩ := Option.bind_eq_some_iff.1 h
      obtain ⟨v, hv, rfl⟩ := Option.map_eq_some_iff.1 h
      have side : ∀ {x}, OkV (.mk 5 [a, b]) x → (OkV a (halfE x 0) ∧ OkV b (halfE x 1)) ∧ (isV (.mk 5 [a, b]) x = true → isV a (halfE x 0) = true ∧ isV b (halfE x 1) = true) := fun {x} o => by
        have f : isV (.mk 5 [a, b]) x = true → isV a (halfE x 0) = true ∧ isV b (halfE x 1) = true := fun h => by
          obtain ⟨p, q, rfl, h1, h2⟩ := isV_pair.1 h
          exact ⟨h1, h2⟩
        refine ⟨?_, f⟩
        rcases o with o | rfl
        · exact ⟨.inl (f o).1, .inl (f o).2⟩
        · exact ⟨.inr rfl, .inr rfl⟩
      have L := ih a (by omega) ha _ _ _ (side ox).1.1 (side oy).1.1 (one.imp (fun h => ((side ox).2 h).1) (fun h => ((side oy).2 h).1)) (hx.half 0) (hy.half 0) hu
      have R := ih b (by omega) hb _ _ _ (side ox).1.2 (side oy).1.2 (one.imp (fun h => ((side ox).2 h).2) (fun h => ((side oy).2 h).2)) (hx.half 1) (hy.half 1) hv
      refine ⟨isV_pair.2 ⟨_, _, rfl, L.is, R.is⟩, .mk _ _ _ _ _ (by decide) (by decide) (fun _ h => by cases h) fun w hw => ?_, (leV_pair _ _ _ _).2 ⟨L.left, R.left⟩, (leV_pair _ _ _ _).2 ⟨L.right, R.right⟩, fun w vw nw h3 h4 => ?_⟩
      · simp only [List.mem_cons, List.not_mem_nil, or_false] at hw
        rcases hw with rfl | rfl
        · exact L.nn
        · exact R.nn
      · rw [leV_pair] at h3 h4 ⊢
        obtain ⟨p, q, rfl, w1, w2⟩ := isV_pair.1 vw
        exact ⟨L.least _ w1 (nw.half 0) h3.1 h4.1, R.least _ w2 (nw.half 1) h3.2 h4.2⟩
end Go.Proofs.YtleejffjnknohaaGreat.J5

namespace Go.Proofs.YtleejffjnknohaaGreat.J5
open S2 (Tr isT)
open V4 (Va Vl Ck isV botT)

theorem Nn.of_inp {P : Nat → Prop} {w : World} {x : Vl} (h : x.Inp P w) : Nn x.er := by
  induction h with
  | mk n m sA sc ss cA cc cs vA vc vs h1 h2 _ _ _ _ _ h8 _ _ _ ih =>
    rw [V4.er_mk]
    refine .mk _ _ _ _ _ h1.1 h2.1 (fun k hk => ?_) fun y hy => ?_
    · obtain ⟨c, hc, rfl⟩ := List.mem_map.1 hk
      exact fun t ht => ((h8 c hc).nok t ht).1
    · obtain ⟨z, hz, rfl⟩ := List.mem_map.1 hy
      exact ih z hz
end Go.Proofs.YtleejffjnknohaaGreat.J5

namespace Go.Proofs.YtleejffjnknohaaGreat.V4
open Go.RowKit Go.Shelf
open C3 (Tk isC belAl drewB cmpC)
open S2 (Sc Tr isT allocB)

theorem cmp_mk (p q x y : Int) : cmpC [⟨p, x⟩] [⟨q, y⟩] = C3.cmpB (decide (x ≤ (if q = p then y else 0)) && true) (decide (y ≤ (if p = q then x else 0)) && true) := rfl
theorem two_apart (p q x y : Int) (hx : 1 ≤ x) (hy : 1 ≤ y) : (aheadC [⟨p, x⟩] [⟨q, y⟩] && decide (cmpC [⟨p, x⟩] [⟨q, y⟩] = 2)) = decide (p < q) := by
  by_cases h : p = q
  · subst h
    have h2 : cmpC [⟨p, x⟩] [⟨p, y⟩] ≠ 2 := by
      rw [cmp_mk, if_pos rfl, if_pos rfl, Bool.and_true, Bool.and_true]
      by_cases h1 : x ≤ y
      · rw [decide_eq_true h1]; cases decide (y ≤ x) <;> decide
      · rw [decide_eq_false h1, decide_eq_true (show y ≤ x by omega)]; decide
    rw [decide_eq_false h2, Bool.and_false, decide_eq_false (by omega)]
  · have h2 : cmpC [⟨p, x⟩] [⟨q, y⟩] = 2 := by
      rw [cmp_mk, if_neg (fun e => h e.symm), if_neg h, decide_eq_false (show ¬ x ≤ 0 by omega), decide_eq_false (show ¬ y ≤ 0 by omega)]
      rfl
    rw [h2, aheadC, if_neg h]
    simp

end Go.Proofs.YtleejffjnknohaaGreat.V4

namespace Go.Proofs.YtleejffjnknohaaGreat.J5
open C3 (Tk cmpC underC ofC isC isC_mk Asc)
open S2 (Tr isT)
open V4 (Va isV botT shortV ApR aheadC two_apart cmp_mk)

section
variable {M V : Type} (c : M → M → Int) (z : V)
theorem mix_snoc {a : List (M × V)} {y : M × V} (h : ∀ x ∈ a, c x.1 y.1 < 0) : mix c z a [y] = (a.map fun p => (p.1, p.2, z)) ++ [(y.1, z, y.2)] := by
  induction a with
  | nil => rw [mix_right, mix_nil]; rfl
  | cons x a ih => rw [mix_lt c z a [] (h x (by simp)), ih fun x hx => h x (by simp [hx])]; rfl
theorem mix_perm {a : List (M × V)} {y : M × V} (h : ∀ x ∈ a, c x.1 y.1 ≠ 0) : (mix c z a [y]).Perm ((a.map fun p => (p.1, p.2, z)) ++ [(y.1, z, y.2)]) := by
  induction a with
  | nil => rw [mix_right, mix_nil]; exact .refl _
  | cons x a ih =>
    have h0 := h x (by simp)
    rcases Int.lt_or_gt_of_ne h0 with h1 | h1
    · rw [mix_lt c z a [] h1]
      exact .cons _ (ih fun x hx => h x (by simp [hx]))
    · rw [mix_gt c z a [] h1]
      have e : mix c z (x :: a) [] = (x :: a).map fun p => (p.1, p.2, z) := by rw [mix]
      rw [e]
      exact (List.perm_append_comm (l₁ := [(y.1, z, y.2)])).trans (.refl _)
theorem allE_left {f : V → V → Option V} {l : List (M × V)} (h : ∀ p ∈ l, f p.2 z = some p.2) : allE f (l.map fun p => (p.1, p.2, z)) = some l := by
  induction l with
  | nil => rfl
  | cons p l ih =>
    rw [List.map_cons, allE, h p (by simp), ih fun p hp => h p (by simp [hp])]
    rfl
end
theorem allE_some {M V W : Type} {f : V → V → Option W} : ∀ {l : List (M × V × V)}, (∀ p ∈ l, ∃ v, f p.2.1 p.2.2 = some v) → ∃ r, allE f l = some r
  | [], _ => ⟨[], rfl⟩
  | p :: l, h => by
    obtain ⟨v, hv⟩ := h p (by simp)
    obtain ⟨r, hr⟩ := allE_some (l := l) fun q hq => h q (by simp [hq])
    exact ⟨(p.1, v) :: r, by rw [allE, hv, hr]; rfl⟩

theorem set_r (s : List Str) (h : s.length ≤ 40) : joinE (.mk 3 []) (.mk 0 0 s [] []) .zero = some (.mk 0 0 s [] []) := by
  rw [joinE, if_pos rfl]
  unfold setE
  exact if_neg (show ¬ 40 < s.length by omega)
theorem set_l (t : Str) : joinE (.mk 3 []) .zero (.mk 0 0 [t] [] []) = some (.mk 0 0 [t] [] []) := by
  rw [joinE, if_pos rfl]
  rfl

/-- The clock of the i-th actor, and what it wrote. -/
def ck1 (i : Nat) : List Tk := [⟨(i : Int), 1⟩]
def sx (i : Nat) : Va := .mk 0 0 [[byt (97 + (i : Int))]] [] []
def sib (k : Nat) : List (List Tk × Va) := (List.range k).map fun i => (ck1 i, sx i)
def sibV (k : Nat) : Va := .mk 0 0 [] ((sib k).map (·.1)) ((sib k).map (·.2))
def oneV (c : List Tk) (t : Str) : Va := .mk 0 0 [] [c] [.mk 0 0 [t] [] []]
def tS : Tr := .mk 8 [.mk 3 []]
theorem isT_tS : isT 16 tS = true := by decide
theorem sib_succ (k : Nat) : sib (k + 1) = sib k ++ [(ck1 k, sx k)] := by simp [sib, List.range_succ]
theorem sib_mem {k : Nat} {p : List Tk × Va} (h : p ∈ sib k) : ∃ i, i < k ∧ p = (ck1 i, sx i) := by
  obtain ⟨i, hi, rfl⟩ := List.mem_map.1 h
  exact ⟨i, List.mem_range.1 hi, rfl⟩
theorem sib_len (k : Nat) : (sib k).length = k := by simp [sib]
theorem ck1_ap {i j : Nat} (h : i < j) : aheadC (ck1 i) (ck1 j) = true ∧ cmpC (ck1 i) (ck1 j) = 2 := by
  have := two_apart (i : Int) (j : Int) 1 1 (by decide) (by decide)
  rw [decide_eq_true (show (i : Int) < j by omega), Bool.and_eq_true] at this
  exact ⟨this.1, of_decide_eq_true this.2⟩
theorem ck1_no (i j : Nat) : cmpC (ck1 i) (ck1 j) ≠ -1 := by
  by_cases h : i = j
  · subst h; exact cmpC_irrefl _
  · unfold ck1
    rw [cmp_mk, if_neg (by omega), if_neg (by omega)]
    decide
theorem ck1_is {i : Nat} (h : i ≤ 100) : isC (ck1 i) = true := by
  refine isC_mk (show 1 ≤ 40 by decide) (List.pairwise_singleton _ _) fun t ht => ?_
  rw [List.mem_singleton.1 ht]
  simp
  omega
theorem sx_is (i : Nat) : isV (.mk 3 []) (sx i) = true := isV_set.2 ⟨_, rfl, List.pairwise_singleton _ _, (show 1 ≤ 40 by decide), rfl⟩
theorem sib_apr (k : Nat) : ((sib k).map (·.1)).Pairwise ApR := by
  rw [List.pairwise_map]
  unfold sib
  rw [List.pairwise_map]
  exact List.pairwise_lt_range.imp fun h => ck1_ap h
theorem sibV_is {k : Nat} (h : k ≤ 40) : isV tS (sibV k) = true := by
  refine isV_cause.2 ⟨_, _, rfl, by simp, by simp [sib_len]; exact h, sib_apr k, fun c hc => ?_, fun y hy => ?_⟩
  · obtain ⟨p, hp, rfl⟩ := List.mem_map.1 hc
    obtain ⟨i, hi, rfl⟩ := sib_mem hp
    exact ck1_is (by omega)
  · obtain ⟨p, hp, rfl⟩ := List.mem_map.1 hy
    obtain ⟨i, hi, rfl⟩ := sib_mem hp
    exact sx_is i
theorem oneV_is {c : List Tk} {t : Str} (hc : isC c = true) (ht : t.length ≤ 16) : isV tS (oneV c t) = true := by
  refine isV_cause.2 ⟨_, _, rfl, rfl, (show 1 ≤ 40 by decide), List.pairwise_singleton _ _, fun k hk => by rw [List.mem_singleton.1 hk]; exact hc, fun y hy => ?_⟩
  rw [List.mem_singleton.1 hy]
  exact isV_set.2 ⟨_, rfl, List.pairwise_singleton _ _, by simp, by unfold shortV; simp; exact ht⟩
theorem joinE_S (x y : Va) : joinE tS x y = causeE (joinE (.mk 3 [])) x y := by unfold tS; rw [joinE, if_neg (by decide)]

theorem js_step (k : Nat) (hk : k < 40) : joinE tS (sibV k) (oneV (ck1 k) [byt (97 + (k : Int))]) = some (sibV (k + 1)) := by
  rw [joinE_S]
  unfold causeE
  rw [show (sibV k).c.zip (sibV k).v = sib k from zip_parts _, show (oneV (ck1 k) [byt (97 + (k : Int))]).c.zip (oneV (ck1 k) [byt (97 + (k : Int))]).v = [(ck1 k, sx k)] from rfl]
  rw [mix_snoc cmpT Va.zero (fun x hx => by obtain ⟨i, hi, rfl⟩ := sib_mem hx; exact cmpT_lt.2 (ck1_ap hi).1)]
  have hseen : ∀ i, seenE (ck1 i) ((sibV k).c ++ (oneV (ck1 k) [byt (97 + (k : Int))]).c) = false := fun i => by
    unfold seenE
    refine List.any_eq_false.2 fun o ho => ?_
    rcases List.mem_append.1 ho with ho | ho
    · obtain ⟨p, hp, rfl⟩ := List.mem_map.1 (show o ∈ (sib k).map (·.1) from ho)
      obtain ⟨j, _, rfl⟩ := sib_mem hp
      exact fun e => ck1_no i j (of_decide_eq_true e)
    · rw [List.mem_singleton.1 (show o ∈ [ck1 k] from ho)]
      exact fun e => ck1_no i k (of_decide_eq_true e)
  rw [List.filter_eq_self.2 (fun p hp => by
    rcases List.mem_append.1 hp with hp | hp
    · obtain ⟨q, hq, rfl⟩ := List.mem_map.1 hp
      obtain ⟨i, _, rfl⟩ := sib_mem hq
      simp only [hseen i, Bool.not_false]
    · rw [List.mem_singleton.1 hp]; simp only [hseen k, Bool.not_false])]
  unfold togE
  rw [if_neg (by simp [sib_len]; omega), allE_snoc, allE_left Va.zero (fun p hp => by obtain ⟨i, _, rfl⟩ := sib_mem hp; exact set_r _ (show 1 ≤ 40 by decide))]
  simp only [Option.bind_some]
  rw [show joinE (.mk 3 []) .zero (sx k) = some (sx k) from set_l _]
  simp only [Option.map_some]
  rw [← sib_succ]
  rfl

/-- How many of k are not in L. -/
def leftN (L : List Nat) (k : Nat) : Nat := ((List.range k).filter fun i => decide (i ∉ L)).length
theorem leftN_un {L : List Nat} {k : Nat} (h : ∀ j ∈ L, j < k) : leftN L (k + 1) = leftN L k + 1 := by
  unfold leftN
  rw [List.range_succ, List.filter_append, List.length_append]
  have : k ∉ L := fun hk => by have := h k hk; omega
  simp [this]
theorem leftN_seen {L : List Nat} {k : Nat} : leftN (L ++ [k]) (k + 1) = leftN L k := by
  unfold leftN
  rw [List.range_succ, List.filter_append, List.length_append]
  have e : (List.range k).filter (fun i => decide (i ∉ L ++ [k])) = (List.range k).filter (fun i => decide (i ∉ L)) := by
    refine List.filter_congr fun i hi => ?_
    have := List.mem_range.1 hi
    exact decide_eq_decide.2 (by simp; omega)
  rw [e]
  simp

/-- The clock that has seen L's. -/
def ckL (L : List Nat) : List Tk := (L.map fun i => ⟨(i : Int), 1⟩) ++ [⟨50, 1⟩]
theorem ofC_L {L : List Nat} (h : ∀ j ∈ L, j < 50) (i : Nat) (hi : i < 50) : ofC (ckL L) i = if i ∈ L then 1 else 0 := by
  unfold ckL
  induction L with
  | nil =>
    show (if (50 : Int) = i then 1 else 0) = _
    rw [if_neg (by omega)]; simp
  | cons j L ih =>
    show (if ((j : Int)) = i then 1 else ofC ((L.map fun i => ⟨(i : Int), 1⟩) ++ [⟨50, 1⟩]) i) = _
    by_cases e : j = i
    · subst e; simp
    · rw [if_neg (by omega), ih fun j hj => h j (by simp [hj])]
      by_cases h2 : i ∈ L
      · rw [if_pos h2, if_pos (by simp [h2])]
      · rw [if_neg h2, if_neg (by simp [h2]; omega)]
theorem ckL_under {L : List Nat} (i : Nat) (hi : i < 50) : underC (ckL L) (ck1 i) = false := by
  unfold underC ckL
  rw [List.all_append, Bool.and_eq_false_iff]
  right
  simp [ck1, ofC]
  rw [if_neg (by omega)]; decide
theorem ckL_sees {L : List Nat} (h : ∀ j ∈ L, j < 50) (i : Nat) (hi : i < 50) : cmpC (ck1 i) (ckL L) = -1 ↔ i ∈ L := by
  rw [cmpC_lt, ckL_under i hi]
  have e : underC (ck1 i) (ckL L) = decide ((1 : Int) ≤ ofC (ckL L) i) := by simp [underC, ck1]
  rw [e, ofC_L h i hi]
  by_cases h2 : i ∈ L
  · simp [h2]
  · simp [h2]
theorem ckL_no {L : List Nat} (i : Nat) (hi : i < 50) : cmpC (ckL L) (ck1 i) ≠ -1 := fun e => by
  have := (cmpC_lt.1 e).1
  rw [ckL_under i hi] at this
  cases this
theorem ckL_is {L : List Nat} (h : ∀ j ∈ L, j < 6) (hs : L.Pairwise (· < ·)) (hl : L.length ≤ 6) : isC (ckL L) = true := by
  refine isC_mk (by simp [ckL]; omega) ?_ fun t ht => ?_
  · unfold Asc ckL
    refine List.pairwise_append.2 ⟨?_, List.pairwise_singleton _ _, fun a ha b hb => ?_⟩
    · rw [List.pairwise_map]
      exact List.Pairwise.imp (fun {a b} (h : a < b) => by show (a : Int) < (b : Int); exact Int.ofNat_lt.2 h) hs
    · obtain ⟨j, hj, rfl⟩ := List.mem_map.1 ha
      rw [List.mem_singleton.1 hb]
      have := h j hj
      show (j : Int) < 50
      omega
  · rcases List.mem_append.1 ht with ht | ht
    · obtain ⟨j, hj, rfl⟩ := List.mem_map.1 ht
      have := h j hj
      simp
      omega
    · rw [List.mem_singleton.1 ht]; decide
theorem js_last (L : List Nat) (k : Nat) (hk : k ≤ 6) (h : ∀ j ∈ L, j < k) : ∃ z, joinE tS (sibV k) (oneV (ckL L) [122]) = some z ∧ z.c.length = leftN L k + 1 := by
  rw [joinE_S]
  unfold causeE
  rw [show (sibV k).c.zip (sibV k).v = sib k from zip_parts _, show (oneV (ckL L) [122]).c.zip (oneV (ckL L) [122]).v = [(ckL L, .mk 0 0 [[122]] [] [])] from rfl]
  have h50 : ∀ j ∈ L, j < 50 := fun j hj => by have := h j hj; omega
  have hne : ∀ x ∈ sib k, cmpT x.1 (ckL L) ≠ 0 := fun x hx e => by
    obtain ⟨i, hi, rfl⟩ := sib_mem hx
    have e2 : ck1 i = ckL L := cmpT_ok.eq e
    have : (⟨50, 1⟩ : Tk) ∈ ck1 i := by rw [e2]; simp [ckL]
    have := List.mem_singleton.1 this
    have := congrArg Tk.k this
    simp at this
    omega
  have hp := mix_perm cmpT Va.zero (y := (ckL L, .mk 0 0 [[122]] [] [])) hne
  obtain ⟨P, hP⟩ : ∃ P : List Tk × Va × Va → Bool, (fun p => !seenE p.1 ((sibV k).c ++ (oneV (ckL L) [122]).c)) = P := ⟨_, rfl⟩
  rw [hP]
  have hP1 : ∀ i, i < k → ∀ u, P (ck1 i, u) = decide (i ∉ L) := fun i hi u => by
    rw [← hP]
    have hs : seenE (ck1 i) ((sibV k).c ++ (oneV (ckL L) [122]).c) = decide (i ∈ L) := by
      unfold seenE
      rw [List.any_append]
      have h1 : (sibV k).c.any (fun o => decide (cmpC (ck1 i) o = -1)) = false := by
        refine List.any_eq_false.2 fun o ho => ?_
        obtain ⟨p, hp, rfl⟩ := List.mem_map.1 (show o ∈ (sib k).map (·.1) from ho)
        obtain ⟨j, _, rfl⟩ := sib_mem hp
        exact fun e => ck1_no i j (of_decide_eq_true e)
      rw [h1, Bool.false_or]
      show ([ckL L].any fun o => decide (cmpC (ck1 i) o = -1)) = _
      rw [List.any_cons, List.any_nil, Bool.or_false]
      exact decide_eq_decide.2 (ckL_sees h50 i (by omega))
    simp only [hs]
    rw [decide_not]
  have hP2 : ∀ u, P (ckL L, u) = true := fun u => by
    rw [← hP]
    have hs : seenE (ckL L) ((sibV k).c ++ (oneV (ckL L) [122]).c) = false := by
      unfold seenE
      refine List.any_eq_false.2 fun o ho => ?_
      rcases List.mem_append.1 ho with ho | ho
      · obtain ⟨p, hp, rfl⟩ := List.mem_map.1 (show o ∈ (sib k).map (·.1) from ho)
        obtain ⟨j, hj, rfl⟩ := sib_mem hp
        exact fun e => ckL_no j (by omega) (of_decide_eq_true e)
      · rw [List.mem_singleton.1 (show o ∈ [ckL L] from ho)]
        exact fun e => cmpC_irrefl _ (of_decide_eq_true e)
    simp only [hs, Bool.not_false]
  have hlen : ((mix cmpT Va.zero (sib k) [(ckL L, .mk 0 0 [[122]] [] [])]).filter P).length = leftN L k + 1 := by
    rw [(hp.filter P).length_eq, List.filter_append, List.length_append]
    congr 1
    · unfold leftN sib
      rw [List.map_map, List.filter_map, List.length_map]
      congr 1
      exact List.filter_congr fun i hi => hP1 i (List.mem_range.1 hi) _
    · rw [List.filter_cons_of_pos (hP2 _)]
      rfl
  obtain ⟨r, hr⟩ : ∃ r, allE (joinE (.mk 3 [])) ((mix cmpT Va.zero (sib k) [(ckL L, .mk 0 0 [[122]] [] [])]).filter P) = some r := by
    refine allE_some fun p hp2 => ?_
    rcases List.mem_append.1 (hp.mem_iff.1 (List.mem_filter.1 hp2).1) with h1 | h1
    · obtain ⟨q, hq, rfl⟩ := List.mem_map.1 h1
      obtain ⟨i, _, rfl⟩ := sib_mem hq
      exact ⟨_, set_r _ (show 1 ≤ 40 by decide)⟩
    · rw [List.mem_singleton.1 h1]
      exact ⟨_, set_l _⟩
  have h40 : leftN L k ≤ k := by
    unfold leftN
    exact Nat.le_trans (List.length_filter_le _ _) (by simp)
  unfold togE
  rw [if_neg (by omega), hr]
  exact ⟨_, rfl, by show (r.map (·.1)).length = _; rw [List.length_map, allE_len hr, hlen]⟩
end Go.Proofs.YtleejffjnknohaaGreat.J5

namespace Go.Proofs.YtleejffjnknohaaGreat.J5
open Go.RowKit Go.Shelf
open C3 (Tk OwnT belAl allocB cellsT Nok)
open S2 (Sc Tr isT)
open V4 (Va Vl Ck val_mk er_mk Bxd ckOne ckOne_in vlCV vlCV_in vlTexts vlTexts_in)

/-- A row of ticks that the call owns is a clock's slice. -/
theorem ck_own {w : World} {base : Nat} {v : Value} {ys : List Tk} (h : OwnT w base v ys) (hn : Nok ys) (hs : ys.length ≤ 1000) : ∃ A c, v = .slice A ys.length c ∧ (Ck.mk A c ys).Inp (fun b => b < w.heap.size) w := by
  rcases h.2 with ⟨rfl, h0⟩ | ⟨g, cap, cur, rfl, hb, hg, hnc, hcm, hcs, ht⟩
  · have : ys = [] := List.eq_nil_of_length_eq_zero h0
    subst this
    exact ⟨none, 0, rfl, .inl rfl, Nat.le_refl _, Nat.zero_le _, hn, by simp⟩
  · refine ⟨_, cap, rfl, .inr ⟨g, 0, rfl, (Array.getElem?_eq_some_iff.1 hg).1, fun i u hu => ?_⟩, hnc, hcm, hn, by simp only; omega⟩
    have := World.ownsRow.cells h (g := g) rfl i u hu
    rwa [Addr.add_lit] at this

/-- Ticks of L's. -/
def tks (L : List Nat) : List Tk := L.map fun (i : Nat) => ⟨(i : Int), 1⟩
theorem tks_snoc (L : List Nat) (i : Nat) : tks L ++ [⟨(i : Int), 1⟩] = tks (L ++ [i]) := by simp [tks]
theorem tks_ck (L : List Nat) : tks L ++ [⟨50, 1⟩] = ckL L := rfl
theorem tks_len (L : List Nat) : (tks L).length = L.length := by simp [tks]
theorem ckL_len (L : List Nat) : (ckL L).length = L.length + 1 := by simp [ckL]
theorem ckL_nok (L : List Nat) : Nok (ckL L) := fun x hx => by
  rcases List.mem_append.1 hx with hx | hx
  · obtain ⟨j, _, rfl⟩ := List.mem_map.1 hx
    exact ⟨(show (0 : Int) ≤ 1 by decide), (show (1 : Int) ≤ 18446744073709551615 by decide)⟩
  · rw [List.mem_singleton.1 hx]; exact ⟨by decide, by decide⟩
theorem tks_nok (L : List Nat) : Nok (tks L) := fun x hx => by
  obtain ⟨j, _, rfl⟩ := List.mem_map.1 hx
  exact ⟨(show (0 : Int) ≤ 1 by decide), (show (1 : Int) ≤ 18446744073709551615 by decide)⟩
theorem ownT_set {w : World} {base : Nat} {v : Value} {ys : List Tk} (h : OwnT w base v ys) (X : Nat) (v0 v1 v2 v3 v4 : Value) (hX : X < base) : OwnT (set5 w X v0 v1 v2 v3 v4) base v ys :=
  row_keep h fun b hb => set5_low (by have := (h.lt hb).1; omega)

/-- Between the rounds: g holds i versions, the clock has seen L's. -/
structure SR (U : World) (Bv : Nat) (i : Nat) (L : List Nat) (cv : Value) (g : Vl) (W : World) : Prop where
  q : Blk W Bv 32 #[.int .u64 g.n, .int .u64 g.m, g.s1, g.c1, g.v1]
  er : g.er = sibV i
  gi : g.Inp (fun b => b < W.heap.size ∧ b ≠ Bv ∧ some b ≠ cv.ownBlock) W
  oc : OwnT W U.heap.size cv (tks L)
  bel : Below Bv U W
  bv : Bv < U.heap.size
  lt : ∀ j ∈ L, j < i
  up : L.Pairwise (· < ·)
  ln : L.length ≤ i

theorem SR.later {U : World} {Bv i : Nat} {L : List Nat} {cv : Value} {g : Vl} {W W' : World} (h : SR U Bv i L cv g W) (hb : Below W.heap.size W W') : SR U Bv i L cv g W' :=
  ⟨h.q.below hb, h.er, (h.gi.keep fun b hP => hb.block b hP.1).mono fun _ hP => ⟨Nat.lt_of_lt_of_le hP.1 hb.size, hP.2⟩, h.oc.below hb, h.bel.trans (hb.mono (by have := h.bel.size; have := h.bv; omega)), h.bv, h.lt, h.up, h.ln⟩
theorem SR.put {U : World} {Bv i : Nat} {L : List Nat} {cv : Value} {g z : Vl} {W0 W W' : World} (h : SR U Bv i L cv g W0) (hb : Below W0.heap.size W0 W) (hz : z.Inp (fun b => W0.heap.size ≤ b ∧ b < W.heap.size) W) (he : z.er = sibV (i + 1)) (hb2 : Below W.heap.size W W') :
    SR U Bv (i + 1) L cv z (set5 W' Bv (.int .u64 z.n) (.int .u64 z.m) z.s1 z.c1 z.v1) := by
  have h2 := (h.later hb).later hb2
  have hU := h.bel.size
  have hv := h.bv
  refine ⟨set5_blk h2.q, he, ?_, ownT_set h2.oc _ _ _ _ _ _ h.bv, set5_bel h2.bel (Nat.le_refl _), h.bv, fun j hj => by have := h.lt j hj; omega, h.up, by have := h.ln; omega⟩
  refine ((hz.keep fun b hP => hb2.block b hP.2).keep fun b hP => set5_low (by omega)).mono fun b hP => ⟨?_, by omega, fun e => ?_⟩
  · rw [set5_size]; have := hb2.size; omega
  · have := (h.oc.lt e.symm).2; omega
theorem SR.seen {U : World} {Bv i : Nat} {L : List Nat} {cv v2 : Value} {g : Vl} {W W2 : World} (h : SR U Bv (i + 1) L cv g W) (hi : ∀ j ∈ L, j < i) (hl : L.length ≤ i) (ho : OwnT W2 U.heap.size v2 (tks (L ++ [i]))) (hg : W.grownBy W2 cv.ownBlock) (hat : v2.ownBlock = cv.ownBlock ∨ v2.ownBlock = some W.heap.size) :
    SR U Bv (i + 1) (L ++ [i]) v2 g W2 := by
  have hv := h.bv
  have low : ∀ k, cv.ownBlock = some k → U.heap.size ≤ k := fun k hk => (h.oc.lt hk).1
  refine ⟨h.q.grown hg fun e => by have := low _ e.symm; omega, h.er, (h.gi.keep fun b hP => hg.block b hP.1 hP.2.2).mono fun b hP => ⟨Nat.lt_of_lt_of_le hP.1 hg.size, hP.2.1, fun e => ?_⟩, ho, h.bel.grown hg (by have := h.bel.size; omega) fun k hk => by have := low _ hk; omega, h.bv, fun j hj => ?_, ?_, by simp; omega⟩
  · rcases hat with e2 | e2
    · exact hP.2.2 (e.trans e2)
    · rw [e2] at e; have := Option.some.inj e; have := hP.1; omega
  · rcases List.mem_append.1 hj with hj | hj
    · have := hi j hj; omega
    · rw [List.mem_singleton.1 hj]; omega
  · exact List.pairwise_append.2 ⟨h.up, List.pairwise_singleton _ _, fun a ha b hb => by rw [List.mem_singleton.1 hb]; exact hi a ha⟩
end Go.Proofs.YtleejffjnknohaaGreat.J5

namespace Go.Proofs.YtleejffjnknohaaGreat.J5
open Go.RowKit Go.Shelf
open C3 (Tk belAl allocB cellsT)
open S2 (Sc Tr isT)
open V4 (Va Vl Ck isV botT Bxd val_mk er_mk scLeaf scLeaf_in scRow scRow_in mk_inj ckOne ckOne_in vlCV vlCV_in vlTexts vlTexts_in)

set_option maxRecDepth 100000 in
set_option maxHeartbeats 8000000 in
theorem joinSiblings_all (n s : Int) (hn : 0 ≤ n ∧ n ≤ 255) (_hs : 0 ≤ s ∧ s ≤ 255) (w : World) : Calls Tryz.prog 9 #[.int .u8 n, .int .u8 s] w (RetV w (.bool true)) := by
  obtain ⟨k, hk⟩ : ∃ q : Nat, n.tmod 6 = (q : Int) := ⟨(n.tmod 6).toNat, by rw [Int.tmod_eq_emod_of_nonneg hn.1]; omega⟩
  have hk5 : k ≤ 5 := by rw [Int.tmod_eq_emod_of_nonneg hn.1] at hk; omega
  go_enter Tryz.func9, Tryz.ntmps9
  go_wp2_with fail
  refine (known_any w).mono ?_
  rintro e W0 ⟨rfl, bW0⟩
  have BW0 : Below w.heap.size w W0 := bW0
  go_wp2_with fail
  refine (of_any 3 none 0 0 W0).mono ?_
  rintro e W1 ⟨rfl, bW1⟩
  have BW1 : Below w.heap.size w W1 := BW0.trans (bW1.mono BW0.size)
  obtain ⟨V1, hV1⟩ : ∃ V1, (W1.alloc (.cells #[.int .i64 3, .slice none 0 0] 24)) = V1 := ⟨_, rfl⟩
  have bV1 : Below W1.heap.size W1 V1 := by rw [← hV1]; exact belAl (Below.refl _ _)
  have X5 : Bxd V1 (W1.heap.size) #[.int .i64 3, .slice none 0 0] := by
    rw [← hV1]
    have := V4.Bxd.new (W := W1) (cs := #[.int .i64 3, .slice none 0 0]) (t := 24)
    exact this
  have BV1 : Below w.heap.size w V1 := BW1.trans (bV1.mono BW1.size)
  go_wp2_with fail
  refine (of_any 8 (some ⟨W1.heap.size, 0, none⟩) 1 1 V1).mono ?_
  rintro e W2 ⟨rfl, bW2⟩
  clear hV1
  replace X5 := X5.later bW2
  have BW2 : Below w.heap.size w W2 := BV1.trans (bW2.mono BV1.size)
  have S82 : (scRow 8 W1.heap.size [scLeaf 3]).In W2.heap.size W2 := scRow_in 8 X5 rfl (by simp) (fun s hs => by rw [List.mem_singleton.1 hs]; exact scLeaf_in _ _ _)
  obtain ⟨W3, hW3⟩ : ∃ W3, ((W2.alloc (.cells #[.int .i64 8, .slice (some ⟨W1.heap.size, 0, none⟩) 1 1] 24)).alloc (.cells #[.int .u64 0, .int .u64 0, .slice none 0 0, .slice none 0 0, .slice none 0 0] 32)) = W3 := ⟨_, rfl⟩
  have bW3 : Below W2.heap.size W2 W3 := by rw [← hW3]; exact belAl (belAl (Below.refl _ _))
  have X7 : Bxd W3 (W2.heap.size) #[.int .i64 8, .slice (some ⟨W1.heap.size, 0, none⟩) 1 1] := by
    rw [← hW3]
    have := V4.Bxd.new (W := W2) (cs := #[.int .i64 8, .slice (some ⟨W1.heap.size, 0, none⟩) 1 1]) (t := 24)
    exact this.al _
  replace X5 := X5.later bW3
  have BW3 : Below w.heap.size w W3 := BW2.trans (bW3.mono BW2.size)
  have hs3 : W3.heap.size = W2.heap.size + 2 := by rw [← hW3]; simp
  have HR0 : Hid (SR W3 (W2.heap.size + 1) 0 [] (.slice none 0 0) vlZ W3) := by
    refine ⟨?_, rfl, V4.inp_zero _ _, C3.OwnT.nil _ _, Below.refl _ _, by omega, by simp, .nil, Nat.le_refl _⟩
    rw [← hW3]
    have := Blk.new (W2.alloc (.cells #[.int .i64 8, .slice (some ⟨W1.heap.size, 0, none⟩) 1 1] 24)) 32 #[.int .u64 0, .int .u64 0, .slice none 0 0, .slice none 0 0, .slice none 0 0]
    rw [World.size_alloc] at this
    exact this
  have HS8 : Hid (∀ W, Below (W2.heap.size + 1) W3 W → Bxd W W2.heap.size #[.int .i64 8, .slice (some ⟨W1.heap.size, 0, none⟩) 1 1] ∧ (scRow 8 W1.heap.size [scLeaf 3]).In W.heap.size W) := fun W hb =>
    ⟨⟨by have := hb.size; omega, fun i v hv => (hb.cell (p := ⟨W2.heap.size, i, none⟩) (Nat.lt_succ_self _)).trans (X7.2 i v hv)⟩, S82.later (bW3.trans (hb.mono (Nat.le_succ _)))⟩
  have HW3 := Lib.hid hW3
  clear X5 X7 S82 hW3
  go_wp2_with fail
  go_loopw [8, 9, 10] (fun cv lv iv wr => ∃ (i : Nat) (L : List Nat) (g : Vl), i ≤ k + 1 ∧ iv = .int .i64 i ∧ lv = .int .i64 (leftN L i) ∧ Hid (SR W3 (W2.heap.size + 1) i L cv g wr)) (fun _ _ iv _ => 60 - (intOf iv).toNat)
  case atStart => exact ⟨0, [], vlZ, by omega, rfl, rfl, by rw [HW3.out]; exact HR0⟩
  case round =>
    obtain ⟨i, L, g, hi, rfl, rfl, HR⟩ := hrel
    have bWr : Below w.heap.size w wr := BW3.trans (HR.out.bel.mono (by have := BW3.size; have := HR.out.bv; have := BW2.size; omega))
    have hUr := HR.out.bel.size
    have bvU := HR.out.bv
    obtain ⟨X7, S8⟩ := HS8.out wr HR.out.bel
    by_cases hlt : i < k + 1
    · skip
      have hi6 : i ≤ 5 := by omega
      have hcv := conv_one (97 + (i : Int)) (by omega) ((wr.alloc (.cells #[.int .i64 i, .int .u64 1] 57)).alloc (.cells #[.slice (some ⟨wr.heap.size, 0, none⟩) 1 1] 55))
      rw [World.size_alloc, World.size_alloc] at hcv
      go_upto_region 12 with fail
      clear hcv
      have Bwr := bWr
      obtain ⟨A, hA⟩ : ∃ A, ((((((wr.alloc (.cells #[.int .i64 i, .int .u64 1] 57)).alloc (.cells #[.slice (some ⟨wr.heap.size, 0, none⟩) 1 1] 55)).alloc (.cells #[.int .u8 (97 + (i : Int))] 5)).alloc (.cells #[.string (S [byt (97 + (i : Int))])] 9)).alloc (.cells #[.int .u64 0, .int .u64 0, .slice (some ⟨wr.heap.size + 1 + 1 + 1, 0, none⟩) 1 1, .slice none 0 0, .slice none 0 0] 32)).alloc (.cells #[.int .u64 0, .int .u64 0, .slice none 0 0, .slice (some ⟨wr.heap.size + 1, 0, none⟩) 1 1, .slice (some ⟨wr.heap.size + 1 + 1 + 1 + 1, 0, none⟩) 1 1] 32)) = A := ⟨_, rfl⟩
      have bA : Below wr.heap.size wr A := by rw [← hA]; exact belAl (belAl (belAl (belAl (belAl (belAl (Below.refl _ _))))))
      have Xt : Bxd A (wr.heap.size) #[.int .i64 i, .int .u64 1] := by
        rw [← hA]
        have := V4.Bxd.new (W := wr) (cs := #[.int .i64 i, .int .u64 1]) (t := 57)
        exact ((((this.al _).al _).al _).al _).al _
      have Xk : Bxd A (wr.heap.size + 1) #[.slice (some ⟨wr.heap.size, 0, none⟩) 1 1] := by
        rw [← hA]
        have := V4.Bxd.new (W := (wr.alloc (.cells #[.int .i64 i, .int .u64 1] 57))) (cs := #[.slice (some ⟨wr.heap.size, 0, none⟩) 1 1]) (t := 55)
        rw [World.size_alloc] at this
        exact (((this.al _).al _).al _).al _
      have Xs : Bxd A (wr.heap.size + 1 + 1 + 1) #[.string (S [byt (97 + (i : Int))])] := by
        rw [← hA]
        have := V4.Bxd.new (W := (((wr.alloc (.cells #[.int .i64 i, .int .u64 1] 57)).alloc (.cells #[.slice (some ⟨wr.heap.size, 0, none⟩) 1 1] 55)).alloc (.cells #[.int .u8 (97 + (i : Int))] 5))) (cs := #[.string (S [byt (97 + (i : Int))])]) (t := 9)
        rw [World.size_alloc, World.size_alloc, World.size_alloc] at this
        exact (this.al _).al _
      have Xq : Bxd A (wr.heap.size + 1 + 1 + 1 + 1) #[.int .u64 0, .int .u64 0, .slice (some ⟨wr.heap.size + 1 + 1 + 1, 0, none⟩) 1 1, .slice none 0 0, .slice none 0 0] := by
        rw [← hA]
        have := V4.Bxd.new (W := ((((wr.alloc (.cells #[.int .i64 i, .int .u64 1] 57)).alloc (.cells #[.slice (some ⟨wr.heap.size, 0, none⟩) 1 1] 55)).alloc (.cells #[.int .u8 (97 + (i : Int))] 5)).alloc (.cells #[.string (S [byt (97 + (i : Int))])] 9))) (cs := #[.int .u64 0, .int .u64 0, .slice (some ⟨wr.heap.size + 1 + 1 + 1, 0, none⟩) 1 1, .slice none 0 0, .slice none 0 0]) (t := 32)
        rw [World.size_alloc, World.size_alloc, World.size_alloc, World.size_alloc] at this
        exact this.al _
      have Xx : Bxd A (wr.heap.size + 1 + 1 + 1 + 1 + 1) #[.int .u64 0, .int .u64 0, .slice none 0 0, .slice (some ⟨wr.heap.size + 1, 0, none⟩) 1 1, .slice (some ⟨wr.heap.size + 1 + 1 + 1 + 1, 0, none⟩) 1 1] := by
        rw [← hA]
        have := V4.Bxd.new (W := (((((wr.alloc (.cells #[.int .i64 i, .int .u64 1] 57)).alloc (.cells #[.slice (some ⟨wr.heap.size, 0, none⟩) 1 1] 55)).alloc (.cells #[.int .u8 (97 + (i : Int))] 5)).alloc (.cells #[.string (S [byt (97 + (i : Int))])] 9)).alloc (.cells #[.int .u64 0, .int .u64 0, .slice (some ⟨wr.heap.size + 1 + 1 + 1, 0, none⟩) 1 1, .slice none 0 0, .slice none 0 0] 32))) (cs := #[.int .u64 0, .int .u64 0, .slice none 0 0, .slice (some ⟨wr.heap.size + 1, 0, none⟩) 1 1, .slice (some ⟨wr.heap.size + 1 + 1 + 1 + 1, 0, none⟩) 1 1]) (t := 32)
        rw [World.size_alloc, World.size_alloc, World.size_alloc, World.size_alloc, World.size_alloc] at this
        exact this
      replace X7 := X7.later bA
      replace S8 := S8.later bA
      have BA : Below w.heap.size w A := Bwr.trans (bA.mono Bwr.size)
      have IX : (vlCV 0 0 none [] (wr.heap.size + 1) [ckOne (wr.heap.size) i 1] (wr.heap.size + 1 + 1 + 1 + 1) [vlTexts 0 (wr.heap.size + 1 + 1 + 1) [[byt (97 + (i : Int))]]]).In A := vlCV_in Xk rfl Xq rfl (by simp) (by simp) (fun k hk => by rw [List.mem_singleton.1 hk]; exact ckOne_in Xt (by omega)) (fun x hx => by rw [List.mem_singleton.1 hx]; exact vlTexts_in 0 (by omega) Xs rfl (by simp) (by simp))
      rw [hA]
      clear hA Xt Xk Xs Xq
      replace HR := Lib.hid (HR.out.later bA)
      have KJ : joinF (scRow 8 W1.heap.size [scLeaf 3]).er g.er (vlCV 0 0 none [] (wr.heap.size + 1) [ckOne (wr.heap.size) i 1] (wr.heap.size + 1 + 1 + 1 + 1) [vlTexts 0 (wr.heap.size + 1 + 1 + 1) [[byt (97 + (i : Int))]]]).er = .ok (sibV (i + 1)) := by
        rw [HR.out.er]
        exact joinF_ok isT_tS (sibV_is (by omega)) (oneV_is (ck1_is (by omega)) (by simp)) (js_step i (by omega))
      have HJ := Lib.hid (Join_any False False.elim (scRow 8 W1.heap.size [scLeaf 3]) g (vlCV 0 0 none [] (wr.heap.size + 1) [ckOne (wr.heap.size) i 1] (wr.heap.size + 1 + 1 + 1 + 1) [vlTexts 0 (wr.heap.size + 1 + 1 + 1) [[byt (97 + (i : Int))]]]) A S8 (HR.out.gi.mono fun _ h => h.1) IX (fun _ => .inr (noP_one (by decide) (noP_leaf (by decide)))))
      have HKJ := Lib.hid KJ
      clear KJ IX
      obtain ⟨g0, hg0⟩ : ∃ g0, g = g0 := ⟨_, rfl⟩
      have HG0 := Lib.hid hg0
      have hq := HR.out.q
      rw [hg0] at HR
      clear hg0
      obtain ⟨gn, gm, gsA, gsc, gss, gcA, gcc, gcs, gvA, gvc, gvs⟩ := g
      simp only [V4.Vl.n, V4.Vl.m, V4.Vl.s1, V4.Vl.c1, V4.Vl.v1] at hq
      have l0 : A.cell? ⟨W2.heap.size, 0, none⟩ = some (.int .i64 8) := X7.2 0 _ rfl
      have l1 : A.cell? ⟨W2.heap.size, 1, none⟩ = some (.slice (some ⟨W1.heap.size, 0, none⟩) 1 1) := X7.2 1 _ rfl
      have l2 : A.cell? ⟨wr.heap.size + 1 + 1 + 1 + 1 + 1, 0, none⟩ = some (.int .u64 0) := Xx.2 0 _ rfl
      have l3 : A.cell? ⟨wr.heap.size + 1 + 1 + 1 + 1 + 1, 1, none⟩ = some (.int .u64 0) := Xx.2 1 _ rfl
      have l4 : A.cell? ⟨wr.heap.size + 1 + 1 + 1 + 1 + 1, 2, none⟩ = some (.slice none 0 0) := Xx.2 2 _ rfl
      have l5 : A.cell? ⟨wr.heap.size + 1 + 1 + 1 + 1 + 1, 3, none⟩ = some (.slice (some ⟨wr.heap.size + 1, 0, none⟩) 1 1) := Xx.2 3 _ rfl
      have l6 : A.cell? ⟨wr.heap.size + 1 + 1 + 1 + 1 + 1, 4, none⟩ = some (.slice (some ⟨wr.heap.size + 1 + 1 + 1 + 1, 0, none⟩) 1 1) := Xx.2 4 _ rfl
      have v0 : A.cell? ⟨W2.heap.size + 1, 0, none⟩ = some (.int .u64 gn) := blk_cell hq 0 _ rfl
      have v1 : A.cell? ⟨W2.heap.size + 1, 1, none⟩ = some (.int .u64 gm) := blk_cell hq 1 _ rfl
      have v2 : A.cell? ⟨W2.heap.size + 1, 2, none⟩ = some (.slice gsA gss.length gsc) := blk_cell hq 2 _ rfl
      have v3 : A.cell? ⟨W2.heap.size + 1, 3, none⟩ = some (.slice gcA gcs.length gcc) := blk_cell hq 3 _ rfl
      have v4 : A.cell? ⟨W2.heap.size + 1, 4, none⟩ = some (.slice gvA gvs.length gvc) := blk_cell hq 4 _ rfl
      go_wp2_with fail
      refine HJ.out.mono ?_
      clear v0 v1 v2 v3 v4 HJ
      rintro e U1 hr
      obtain ⟨⟨zn, zm, zsA, zsc, zss, zcA, zcc, zcs, zvA, zvc, zvs⟩, rfl, hze, hzi, bU1⟩ := retK_ok hr HKJ.out
      have HZE := Lib.hid hze
      have HZI := Lib.hid hzi
      rw [er_mk, sibV, mk_inj] at hze
      have hne : (((zcs.length : Nat) : Int) != (i : Int) + 1) = false := by
        have h := congrArg List.length hze.2.2.2.1
        simp [sib_len] at h
        simp; omega
      clear hr hze hzi HKJ
      have q1 := hq.below bU1
      simp only [val_mk]
      clear l0 l1 l2 l3 l4 l5 l6
      clear Xx
      replace X7 := X7.later bU1
      replace S8 := S8.later bU1
      have BU1 : Below w.heap.size w U1 := BA.trans (bU1.mono BA.size)
      clear hq
      obtain ⟨W5, hW5⟩ : ∃ W5, (U1.alloc (.cells #[.int .u64 zn, .int .u64 zm, .slice zsA zss.length zsc, .slice zcA zcs.length zcc, .slice zvA zvs.length zvc] 32)) = W5 := ⟨_, rfl⟩
      have bW5 : Below U1.heap.size U1 W5 := by rw [← hW5]; exact belAl (Below.refl _ _)
      have Xw : Bxd W5 (U1.heap.size) #[.int .u64 zn, .int .u64 zm, .slice zsA zss.length zsc, .slice zcA zcs.length zcc, .slice zvA zvs.length zvc] := by
        rw [← hW5]
        have := V4.Bxd.new (W := U1) (cs := #[.int .u64 zn, .int .u64 zm, .slice zsA zss.length zsc, .slice zcA zcs.length zcc, .slice zvA zvs.length zvc]) (t := 32)
        exact this
      replace X7 := X7.later bW5
      replace S8 := S8.later bW5
      have BW5 : Below w.heap.size w W5 := BU1.trans (bW5.mono BU1.size)
      have q5 := q1.below bW5
      have l7 : W5.cell? ⟨U1.heap.size, 0, none⟩ = some (.int .u64 zn) := Xw.2 0 _ rfl
      have l8 : W5.cell? ⟨U1.heap.size, 1, none⟩ = some (.int .u64 zm) := Xw.2 1 _ rfl
      have l9 : W5.cell? ⟨U1.heap.size, 2, none⟩ = some (.slice zsA zss.length zsc) := Xw.2 2 _ rfl
      have l10 : W5.cell? ⟨U1.heap.size, 3, none⟩ = some (.slice zcA zcs.length zcc) := Xw.2 3 _ rfl
      have l11 : W5.cell? ⟨U1.heap.size, 4, none⟩ = some (.slice zvA zvs.length zvc) := Xw.2 4 _ rfl
      have v0 : W5.cell? ⟨W2.heap.size + 1, 0, none⟩ = some (.int .u64 gn) := blk_cell q5 0 _ rfl
      have f0 := blk_frozen q5 0
      have v1 : W5.cell? ⟨W2.heap.size + 1, 1, none⟩ = some (.int .u64 gm) := blk_cell q5 1 _ rfl
      have f1 := blk_frozen q5 1
      have v2 : W5.cell? ⟨W2.heap.size + 1, 2, none⟩ = some (.slice gsA gss.length gsc) := blk_cell q5 2 _ rfl
      have f2 := blk_frozen q5 2
      have v3 : W5.cell? ⟨W2.heap.size + 1, 3, none⟩ = some (.slice gcA gcs.length gcc) := blk_cell q5 3 _ rfl
      have f3 := blk_frozen q5 3
      have v4 : W5.cell? ⟨W2.heap.size + 1, 4, none⟩ = some (.slice gvA gvs.length gvc) := blk_cell q5 4 _ rfl
      have f4 := blk_frozen q5 4
      have HR5 : Hid (SR W3 (W2.heap.size + 1) (i + 1) L u8 (Vl.mk zn zm zsA zsc zss zcA zcc zcs zvA zvc zvs) (set5 W5 (W2.heap.size + 1) (.int .u64 zn) (.int .u64 zm) (.slice zsA zss.length zsc) (.slice zcA zcs.length zcc) (.slice zvA zvs.length zvc))) := HR.out.put bU1 HZI.out HZE.out bW5
      go_upto_region 16 with fail
      clear l7 l8 l9 l10 l11
      clear v0 v1 v2 v3 v4 f0 f1 f2 f3 f4 q5 q1
      obtain ⟨W6, hW6⟩ : ∃ W6, (((((W5.setCell ⟨W2.heap.size + 1, 0, none⟩ (.int .u64 zn)).setCell ⟨W2.heap.size + 1, 1, none⟩ (.int .u64 zm)).setCell ⟨W2.heap.size + 1, 2, none⟩ (.slice zsA zss.length zsc)).setCell ⟨W2.heap.size + 1, 3, none⟩ (.slice zcA zcs.length zcc)).setCell ⟨W2.heap.size + 1, 4, none⟩ (.slice zvA zvs.length zvc)) = W6 := ⟨_, rfl⟩
      rw [hW6]
      replace HR5 : Hid (SR W3 (W2.heap.size + 1) (i + 1) L u8 (Vl.mk zn zm zsA zsc zss zcA zcc zcs zvA zvc zvs) W6) := by rw [← hW6]; exact HR5
      clear hW6
      have HLT := Lib.hid (And.intro HR.out.lt HR.out.ln)
      have hl6 : leftN L i ≤ 5 := by unfold leftN; exact Nat.le_trans (List.length_filter_le _ _) (by simp; omega)
      have hlL : (tks L).length ≤ 5 := by rw [tks_len]; have := HR.out.ln; omega
      obtain ⟨bt, hbt⟩ : ∃ bt, (bits BinOp.and IntKind.u8 (s / 2 ^ i) 1 == 1) = bt := ⟨_, rfl⟩
      cases bt with
      | false =>
        go_wp2_with fail
        go_roundw
        case rel => exact ⟨i + 1, L, Vl.mk zn zm zsA zsc zss zcA zcc zcs zvA zvc zvs, by omega, by go_num, by rw [leftN_un HLT.out.1]; go_num, HR5⟩
        case measure => simp [intOf]; omega
      | true =>
        have HL8 : Hid (C3.LiesB (W6.heap.size + 1) (W6.alloc (.cells #[.int .i64 i, .int .u64 1] 57)) (some ⟨W6.heap.size, 0, none⟩) [⟨(i : Int), 1⟩]) := .inr ⟨W6.heap.size, 0, rfl, Nat.lt_succ_self _, fun j x hx => by
          obtain rfl : j = 0 := by have := (List.getElem?_eq_some_iff.1 hx).1; simp at this; omega
          obtain rfl : x = ⟨(i : Int), 1⟩ := by simpa using hx.symm
          exact ⟨V4.alloc_cells 0 _ rfl, V4.alloc_cells 1 _ rfl⟩⟩
        have HO8 := Lib.hid (HR5.out.oc.below (allocB W6 (.cells #[.int .i64 i, .int .u64 1] 57)))
        have hs6 : W3.heap.size ≤ W6.heap.size := HR5.out.bel.size
        go_wp2_with (at_builtin
                     refine C3.wpList_app _ rfl (.tmp 68) (.tmp 71) 55 rfl W3.heap.size Tryz.underlying55 u8 (tks L) rfl HO8.out (W6.heap.size + 1) (some ⟨W6.heap.size, 0, none⟩) 1 1 [⟨(i : Int), 1⟩] rfl rfl HL8.out ?ql ?qb ?_
                     case ql => (simp; omega)
                     case qb => (simp; omega)
                     intro v2 w2 hown2 hg2 hat2
                     have HR8 : Hid (SR W3 (W2.heap.size + 1) (i + 1) (L ++ [i]) v2 (Vl.mk zn zm zsA zsc zss zcA zcc zcs zvA zvc zvs) w2) := (HR5.out.later (allocB _ _)).seen HLT.out.1 HLT.out.2 (by rw [← tks_snoc]; exact hown2) hg2 hat2
                     clear hown2 hg2 hat2)
        go_roundw
        case rel => exact ⟨i + 1, L ++ [i], Vl.mk zn zm zsA zsc zss zcA zcc zcs zvA zvc zvs, by omega, by go_num, by rw [leftN_seen], HR8⟩
        case measure => simp [intOf]; omega
    · obtain rfl : i = k + 1 := by omega
      have HL8 : Hid (C3.LiesB (wr.heap.size + 1) (wr.alloc (.cells #[.int .i64 50, .int .u64 1] 57)) (some ⟨wr.heap.size, 0, none⟩) [⟨50, 1⟩]) := .inr ⟨wr.heap.size, 0, rfl, Nat.lt_succ_self _, fun j x hx => by
        obtain rfl : j = 0 := by have := (List.getElem?_eq_some_iff.1 hx).1; simp at this; omega
        obtain rfl : x = ⟨50, 1⟩ := by simpa using hx.symm
        exact ⟨V4.alloc_cells 0 _ rfl, V4.alloc_cells 1 _ rfl⟩⟩
      have HR9 := Lib.hid (HR.out.later (allocB wr (.cells #[.int .i64 50, .int .u64 1] 57)))
      have hlL : (tks L).length ≤ 6 := by rw [tks_len]; have := HR.out.ln; omega
      clear X7 S8
      go_wp2_with (at_builtin
                   refine C3.wpList_app _ rfl (.tmp 75) (.tmp 77) 55 rfl W3.heap.size Tryz.underlying55 u8 (tks L) rfl HR9.out.oc (wr.heap.size + 1) (some ⟨wr.heap.size, 0, none⟩) 1 1 [⟨50, 1⟩] rfl rfl HL8.out ?ql ?qb ?_
                   case ql => (simp; omega)
                   case qb => (simp; omega)
                   intro v2 w2 hown2 hg2 hat2
                   have hq := HR9.out.q.grown hg2 (fun e => by have := (HR9.out.oc.lt e.symm).1; have := HR9.out.bv; omega)
                   have HGI : Hid (g.In w2) := (HR9.out.gi.keep fun b hP => hg2.block b hP.1 hP.2.2).mono fun b hP => Nat.lt_of_lt_of_le hP.1 hg2.size
                   have b2 : Below (W2.heap.size + 1) W3 w2 := HR9.out.bel.grown hg2 (by have := HR9.out.bel.size; omega) fun k hk => by have := (HR9.out.oc.lt hk).1; omega
                   rw [tks_ck] at hown2
                   obtain ⟨A3, c3, hv2, hck⟩ := ck_own hown2 (ckL_nok L) (by rw [ckL_len, ← tks_len]; omega)
                   have HCK := Lib.hid hck
                   obtain ⟨n3, hn3⟩ : ∃ n3, (ckL L).length = n3 := ⟨_, rfl⟩
                   rw [hn3] at hv2
                   have HN3 := Lib.hid hn3
                   subst hv2
                   clear hown2 hg2 hat2 hck hn3
                   obtain ⟨X7, S8⟩ := HS8.out w2 b2
                   have Bw2 : Below w.heap.size w w2 := BW3.trans (b2.mono (by have := BW3.size; have := BW2.size; omega))
                   obtain ⟨g0, hg0⟩ : ∃ g0, g = g0 := ⟨_, rfl⟩
                   have HG0 := Lib.hid hg0
                   rw [hg0] at HGI HR HR9
                   clear hg0
                   obtain ⟨gn, gm, gsA, gsc, gss, gcA, gcc, gcs, gvA, gvc, gvs⟩ := g
                   simp only [V4.Vl.n, V4.Vl.m, V4.Vl.s1, V4.Vl.c1, V4.Vl.v1] at hq
                   obtain ⟨X7c0, X7c1⟩ : w2.cell? ⟨W2.heap.size, 0, none⟩ = some (.int .i64 8) ∧ w2.cell? ⟨W2.heap.size, 1, none⟩ = some (.slice (some ⟨W1.heap.size, 0, none⟩) 1 1) := ⟨X7.2 0 _ rfl, X7.2 1 _ rfl⟩
                   have v0 : w2.cell? ⟨W2.heap.size + 1, 0, none⟩ = some (.int .u64 gn) := blk_cell hq 0 _ rfl
                   have v1 : w2.cell? ⟨W2.heap.size + 1, 1, none⟩ = some (.int .u64 gm) := blk_cell hq 1 _ rfl
                   have v2 : w2.cell? ⟨W2.heap.size + 1, 2, none⟩ = some (.slice gsA gss.length gsc) := blk_cell hq 2 _ rfl
                   have v3 : w2.cell? ⟨W2.heap.size + 1, 3, none⟩ = some (.slice gcA gcs.length gcc) := blk_cell hq 3 _ rfl
                   have v4 : w2.cell? ⟨W2.heap.size + 1, 4, none⟩ = some (.slice gvA gvs.length gvc) := blk_cell hq 4 _ rfl

                   have BW2_ := Bw2
                   obtain ⟨W9, hW9⟩ : ∃ W9, (((w2.alloc (.cells #[.slice A3 n3 c3] 55)).alloc (.cells #[.string { data := #[122] }] 9)).alloc (.cells #[.int .u64 0, .int .u64 0, .slice (some ⟨w2.heap.size + 1, 0, none⟩) 1 1, .slice none 0 0, .slice none 0 0] 32)) = W9 := ⟨_, rfl⟩
                   have bW9 : Below w2.heap.size w2 W9 := by rw [← hW9]; exact belAl (belAl (belAl (Below.refl _ _)))
                   have Xk : Bxd W9 (w2.heap.size) #[.slice A3 n3 c3] := by
                     rw [← hW9]
                     have := V4.Bxd.new (W := w2) (cs := #[.slice A3 n3 c3]) (t := 55)
                     exact (this.al _).al _
                   have Xs : Bxd W9 (w2.heap.size + 1) #[.string { data := #[122] }] := by
                     rw [← hW9]
                     have := V4.Bxd.new (W := (w2.alloc (.cells #[.slice A3 n3 c3] 55))) (cs := #[.string { data := #[122] }]) (t := 9)
                     rw [World.size_alloc] at this
                     exact this.al _
                   have Xq : Bxd W9 (w2.heap.size + 1 + 1) #[.int .u64 0, .int .u64 0, .slice (some ⟨w2.heap.size + 1, 0, none⟩) 1 1, .slice none 0 0, .slice none 0 0] := by
                     rw [← hW9]
                     have := V4.Bxd.new (W := ((w2.alloc (.cells #[.slice A3 n3 c3] 55)).alloc (.cells #[.string { data := #[122] }] 9))) (cs := #[.int .u64 0, .int .u64 0, .slice (some ⟨w2.heap.size + 1, 0, none⟩) 1 1, .slice none 0 0, .slice none 0 0]) (t := 32)
                     rw [World.size_alloc, World.size_alloc] at this
                     exact this
                   replace X7 := X7.later bW9
                   replace S8 := S8.later bW9
                   have BW9 : Below w.heap.size w W9 := Bw2.trans (bW9.mono Bw2.size)
                   have HN3o := HN3.out
                   have IX : (vlCV 0 0 none [] (w2.heap.size) [⟨A3, c3, ckL L⟩] (w2.heap.size + 1 + 1) [vlTexts 0 (w2.heap.size + 1) [[122]]]).In W9 := vlCV_in Xk (by rw [← HN3o]; rfl) Xq rfl (by simp) (by simp) (fun k hk => by rw [List.mem_singleton.1 hk]; exact (HCK.out.keep fun b hb => bW9.block b hb).mono fun b hb => Nat.lt_of_lt_of_le hb bW9.size) (fun x hx => by rw [List.mem_singleton.1 hx]; exact vlTexts_in 0 (by omega) Xs rfl (by simp) (by simp))
                   clear Xk Xs Xq HN3o
                   have HIX := Lib.hid IX
                   have HS9 := Lib.hid S8
                   have HGI9 : Hid (g0.In W9) := HGI.out.later bW9
                   have HX7 := Lib.hid X7
                   clear X7 S8 IX hq)
      obtain ⟨z0, hz0, hzl⟩ := js_last L (k + 1) (by omega) HR.out.lt
      have hcl : C3.isC (ckL L) = true := ckL_is (fun j hj => by have := HR.out.lt j hj; omega) HR.out.up (by rw [← tks_len]; exact hlL)
      have vX : isV tS (sibV (k + 1)) = true := sibV_is (by omega)
      have vY : isV tS (oneV (ckL L) [122]) = true := oneV_is hcl (by decide)
      have KJ : joinF (scRow 8 W1.heap.size [scLeaf 3]).er g0.er (vlCV 0 0 none [] (w2.heap.size) [⟨A3, c3, ckL L⟩] (w2.heap.size + 1 + 1) [vlTexts 0 (w2.heap.size + 1) [[122]]]).er = .ok z0 := by
        rw [HR.out.er]
        exact joinF_ok isT_tS vX vY hz0
      have nX : Nn (sibV (k + 1)) := by rw [← HR.out.er]; exact Nn.of_inp HGI9.out
      have nY : Nn (oneV (ckL L) [122]) := (Nn.of_inp HIX.out : Nn (vlCV 0 0 none [] (w2.heap.size) [⟨A3, c3, ckL L⟩] (w2.heap.size + 1 + 1) [vlTexts 0 (w2.heap.size + 1) [[122]]]).er)
      have vZ : isV tS z0 = true := (lub_of 16 tS (Nat.le_refl _) isT_tS _ _ _ (.inl vX) (.inl vY) (.inl vX) nX nY hz0).is
      have HJ := Join_any False False.elim (scRow 8 W1.heap.size [scLeaf 3]) g0 (vlCV 0 0 none [] (w2.heap.size) [⟨A3, c3, ckL L⟩] (w2.heap.size + 1 + 1) [vlTexts 0 (w2.heap.size + 1) [[122]]]) W9 HS9.out HGI9.out HIX.out (fun _ => .inr (noP_one (by decide) (noP_leaf (by decide))))
      rw [KJ] at HJ
      have HJ2 := Lib.hid HJ
      have HZL := Lib.hid (And.intro hzl vZ)
      rw [← HG0.out] at HJ2
      clear KJ HJ nX nY vX vY vZ hz0 hzl hcl
      refine HJ2.out.mono ?_
      rintro e U1 hr
      obtain ⟨⟨zn, zm, zsA, zsc, zss, zcA, zcc, zcs, zvA, zvc, zvs⟩, rfl, hze, hzi, bU1⟩ := retK_ok hr rfl
      have I1 := inn hzi
      have Xb := HX7.out.later bU1
      have S1 := HS9.out.later bU1
      have hlc : (((zcs.length : Nat) : Int) == ((leftN L (k + 1) : Nat) : Int) + 1) = true := by
        have h := HZL.out.1
        rw [← hze, er_mk] at h
        have h2 : (zcs.map Ck.l).length = leftN L (k + 1) + 1 := h
        rw [List.length_map] at h2
        simp; omega
      have HIS := Lib.hid (fun W (hb : Below U1.heap.size U1 W) => V4.refIsW_any (scRow 8 W1.heap.size [scLeaf 3]) (Vl.mk zn zm zsA zsc zss zcA zcc zcs zvA zvc zvs) W (S1.later hb) (I1.later hb))
      have hb1 : (isT 16 (scRow 8 W1.heap.size [scLeaf 3]).er && isV (scRow 8 W1.heap.size [scLeaf 3]).er (Vl.mk zn zm zsA zsc zss zcA zcc zcs zvA zvc zvs).er) = true := by
        rw [hze, Bool.and_eq_true]
        exact ⟨isT_tS, HZL.out.2⟩
      rw [hb1] at HIS
      simp only [val_mk]
      clear hr hze hzi hb1 HJ2 X7c0 X7c1 v0 v1 v2 v3 v4 I1 S1
      have hl7 : leftN L (k + 1) ≤ 6 := by unfold leftN; exact Nat.le_trans (List.length_filter_le _ _) (by simp; omega)
      have BU1 : Below w.heap.size w U1 := BW9.trans (bU1.mono BW9.size)
      obtain ⟨Wa, hWa⟩ : ∃ Wa, (U1.alloc (.cells #[.int .u64 zn, .int .u64 zm, .slice zsA zss.length zsc, .slice zcA zcs.length zcc, .slice zvA zvs.length zvc] 32)) = Wa := ⟨_, rfl⟩
      have bWa : Below U1.heap.size U1 Wa := by rw [← hWa]; exact belAl (Below.refl _ _)
      have Xw : Bxd Wa (U1.heap.size) #[.int .u64 zn, .int .u64 zm, .slice zsA zss.length zsc, .slice zcA zcs.length zcc, .slice zvA zvs.length zvc] := by
        rw [← hWa]
        have := V4.Bxd.new (W := U1) (cs := #[.int .u64 zn, .int .u64 zm, .slice zsA zss.length zsc, .slice zcA zcs.length zcc, .slice zvA zvs.length zvc]) (t := 32)
        exact this
      replace Xb := Xb.later bWa
      have BWa : Below w.heap.size w Wa := BU1.trans (bWa.mono BU1.size)
      have l12 : Wa.cell? ⟨U1.heap.size, 0, none⟩ = some (.int .u64 zn) := Xw.2 0 _ rfl
      have l13 : Wa.cell? ⟨U1.heap.size, 1, none⟩ = some (.int .u64 zm) := Xw.2 1 _ rfl
      have l14 : Wa.cell? ⟨U1.heap.size, 2, none⟩ = some (.slice zsA zss.length zsc) := Xw.2 2 _ rfl
      have l15 : Wa.cell? ⟨U1.heap.size, 3, none⟩ = some (.slice zcA zcs.length zcc) := Xw.2 3 _ rfl
      have l16 : Wa.cell? ⟨U1.heap.size, 4, none⟩ = some (.slice zvA zvs.length zvc) := Xw.2 4 _ rfl
      have l17 : Wa.cell? ⟨W2.heap.size, 0, none⟩ = some (.int .i64 8) := Xb.2 0 _ rfl
      have l18 : Wa.cell? ⟨W2.heap.size, 1, none⟩ = some (.slice (some ⟨W1.heap.size, 0, none⟩) 1 1) := Xb.2 1 _ rfl
      go_wp2_with fail
      refine (HIS.out _ bWa).mono ?_
      rintro e U2 ⟨rfl, bU2⟩
      go_wp2_with fail
      go_ret
      exact ⟨rfl, BWa.trans (bU2.mono BWa.size)⟩
end Go.Proofs.YtleejffjnknohaaGreat.J5

namespace Go.Proofs.YtleejffjnknohaaGreat
open Go.ChangeShapes Go.WideShapes Go.ChangeAt Go.RowKit

theorem u8_in {n : Int} (h : (Lit.int .u8 n).wf = true) : 0 ≤ n ∧ n ≤ 255 := by
  simp [Lit.wf] at h
  have e1 : IntKind.u8.min = 0 := by decide
  have e2 : IntKind.u8.max = 255 := by decide
  omega
theorem u64_in {n : Int} (h : (Lit.int .u64 n).wf = true) : 0 ≤ n ∧ n ≤ 18446744073709551615 := by
  simp [Lit.wf] at h
  have e1 : IntKind.u64.min = 0 := by decide
  have e2 : IntKind.u64.max = 18446744073709551615 := by decide
  omega

set_option maxRecDepth 100000 in
theorem joinSiblings_lifted (os : Os) (started : os.Started) (H : Type) (enc : TypeId × Value → H) :
    ReturnsInHanded {} Tryz.checked os 9 .any (Rows.joinSiblingsSpec.pre6 enc Tryz.prog Tryz.f9 Rows.joinSiblingsRow.domain false) (Rows.joinSiblingsSpec.post enc Tryz.prog Tryz.f9 false true false false) := by
  refine returnsInHanded_of_change (C := Tryz.checked) (by kernel_rfl) started (by kernel_rfl) Tryz.func9
    (ChangeSpec.witness6 (enc := enc) (C := Tryz.checked) false ⟨#[], #[.int .u8 0, .int .u8 0], []⟩ 8 (by kernel_rfl) (by kernel_rfl) (by kernel_rfl) (by kernel_rfl)) ?_
  intro W base args ds gs before hval0 hW _ _
  have hval : ∀ (j : Nat) t v, Tryz.f9.params[j]? = some t → args[j]? = some v → Value.okWide Tryz.prog W .any base t v := hval0
  have hW' := hW
  obtain ⟨p, q, hA0, hV, rfl, _, _⟩ := hW
  have hA : DataW.TrodAll enc Tryz.prog W 0 (fun _ => true) true Tryz.f9.params.toList args.toList ds p := hA0
  rw [Tryz.params9] at hA hval
  obtain ⟨v0, vs0, d0, ds0, p0, q0, hargs, rfl, rfl, h0, r0⟩ := trodAll_cons hA
  obtain ⟨v1, vs1, d1, ds1, p1, q1, rfl, rfl, rfl, h1, r1⟩ := trodAll_cons r0
  obtain ⟨rfl, rfl, rfl⟩ := trodAll_nil r1
  obtain rfl : args = #[v0, v1] := by cases args; simp_all
  obtain ⟨rfl, rfl⟩ := trodVars_none hV
  obtain ⟨a0, rfl, rfl, rfl, w0⟩ := open_int Tryz.underlying5 (hval 0 5 v0 rfl rfl) h0
  obtain ⟨a1, rfl, rfl, rfl, w1⟩ := open_int Tryz.underlying5 (hval 1 5 v1 rfl rfl) h1
  clear hA0 hval0
  simp only [List.append_nil] at hW'
  refine (J5.joinSiblings_all a0 a1 (u8_in w0) (u8_in w1) W).mono fun e W' ⟨he, bel⟩ => ?_
  subst he
  exact ⟨_, rfl, _, _, _, [], _, [], hW', trodAll_mk1 (shut_bool Tryz.underlying4 _), (trodAll_cons_mk (shut_int Tryz.underlying5 w0) (trodAll_cons_mk (shut_int Tryz.underlying5 w1) trodAll_mk0)), rfl, bel.frame _, fun h => by cases h⟩

theorem joinSiblings_holds : Rows.JoinSiblingsSaid :=
  OpenClaim.holds_of_wide 9 Tryz.f9 rfl rfl rfl rfl rfl rfl rfl ⟨rfl, rfl, rfl, rfl, rfl⟩ rfl rfl rfl rfl rfl (by kernel_rfl) Tryz.func9 (by kernel_rfl)
    (of_decide_eq_true (by kernel_rfl)) (by unfold Func.isWrapper; first | (rw [if_pos (by decide +kernel)]; kernel_rfl) | (rw [if_neg (by decide +kernel)]; exact ⟨rfl, rfl⟩))
    (fun os started H enc _ => joinSiblings_lifted os started H enc)
end Go.Proofs.YtleejffjnknohaaGreat
