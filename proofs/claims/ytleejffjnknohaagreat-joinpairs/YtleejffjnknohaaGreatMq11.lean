/- What the reference's is and Is do, of maps and pairs, and of all. No condition but that what they take lies in memory. -/
import Derived.Test.YtleejffjnknohaaGreatMq06
namespace Go.Proofs.YtleejffjnknohaaGreat.V4
open Go.RowKit
open C3 (Tk Asc isC ofC cmpC Nok In belAl allocB drewB RetT)
open S2 (Tr Sc isT)

set_option maxRecDepth 100000 in
set_option maxHeartbeats 4000000 in
theorem refIsV_4 (A : Option Addr) (c : Nat) (a : Sc) (x : Vl) (w : World) (hs : (Sc.mk 4 A c [a]).In w.heap.size w) (hx : x.In w) (p : Va → Bool) (ih : ∀ (y : Vl) (w : World), a.In w.heap.size w → y.In w → Calls Tryz.prog 32 #[a.val, y.val] w (RetV w (.bool (p y.er)))) : Calls Tryz.prog 32 #[(Sc.mk 4 A c [a]).val, x.val] w (RetV w (.bool (baseV 4 x.er && mapV p (botT a.er) x.er.v))) := by
  obtain ⟨n, m, sA, sc, ss, cA, cc, cs, vA, vc, vs⟩ := x
  have HS := Lib.hid hs
  have IH := Lib.hid ih
  clear hs ih
  have HB0 : Hid (Below w.heap.size w ((w.alloc (.cells #[.int .i64 4, .slice A 1 c] 24)).alloc (.cells #[.int .u64 n, .int .u64 m, .slice sA ss.length sc, .slice cA cs.length cc, .slice vA vs.length vc] 32))) := belAl (allocB _ _)
  have HX := Lib.hid (hx.later HB0.out)
  have P := hx.out
  have HP := Lib.hid P
  have HSB : Hid (ss.length ≤ maxLen) := Nat.le_trans P.sb.1 P.sb.2.1
  have hsm : ss.length ≤ 9223372036854775807 := by have := P.sb; unfold maxLen at this; omega
  have hcm : cs.length ≤ 9223372036854775807 := by have := P.cb; unfold maxLen at this; omega
  have hvm : vs.length ≤ 9223372036854775807 := by have := P.vb; unfold maxLen at this; omega
  obtain ⟨t, ht⟩ : ∃ z, fitsV 4 (Vl.mk n m sA sc ss cA cc cs vA vc vs).er = z := ⟨_, rfl⟩
  obtain ⟨u, hu⟩ : ∃ z, decide (R1.Srt ss) = z := ⟨_, rfl⟩
  obtain ⟨q, hq⟩ : ∃ z, decide (ss.length ≤ 40) = z := ⟨_, rfl⟩
  have HF : Hid (baseV 4 (Vl.mk n m sA sc ss cA cc cs vA vc vs).er = (t && (u && q))) := by
    show baseV _ _ = _
    unfold baseV
    rw [ht, er_mk, show (Va.mk n m ss (cs.map Ck.l) (vs.map Vl.er)).s = ss from rfl, hu, hq]
  have HT := Lib.hid ht
  have HU := Lib.hid hu
  have HQ := Lib.hid hq
  rw [HF.out]
  clear hx P ht hu hq HF
  simp only [S2.val_mk, val_mk, List.length_nil, List.length_cons, Nat.zero_add]
  go_enter Tryz.func32, Tryz.ntmps32
  go_wp2_with fail
  refine (refFits_at 4 A c 1 n m sA sc ss cA cc cs vA vc vs t _ HX.out HT.out).mono ?_
  rintro e w1 ⟨rfl, hb1⟩
  have HBX : Hid (Boxes w 4 A 1 c n m sA ss.length sc cA cs.length cc vA vs.length vc w1) := Boxes.later ⟨by go_simp, by go_simp, by go_simp, by go_simp, by go_simp, by go_simp, by go_simp, by simp, HB0.out⟩ hb1
  clear hb1 HB0 HX
  cases t with
  | false =>
    go_wp2_with fail
    go_ret
    exact ⟨rfl, HBX.out.bel⟩
  | true =>
    have c2 := HBX.out.c2
    go_wp2_with fail
    refine (refRises_at sA sc ss u _ (HP.out.sl.below HBX.out.bel) HSB.out HU.out).mono ?_
    rintro e w2 ⟨rfl, hb2⟩
    replace HBX := Lib.hid (HBX.out.later hb2)
    clear hb2 c2
    cases u with
    | false =>
      go_wp2_with fail
      go_ret
      exact ⟨rfl, HBX.out.bel⟩
    | true =>
      have c2 := HBX.out.c2
      have i0 := HBX.out.i0
      cases q with
      | false =>
        have dq : 40 < ss.length := by have := of_decide_eq_false HQ.out; omega
        go_wp2_with fail
        go_ret
        exact ⟨rfl, HBX.out.bel⟩
      | true =>
        have dq : decide (40 < (ss.length : Int)) = false := decide_eq_false (by have := of_decide_eq_true HQ.out; omega)
        have i1 := HBX.out.i1
        have c4 := HBX.out.c4
        go_wp2_with fail
        go_loopw [5] (fun iv wr => ∃ i : Nat, i ≤ vs.length ∧ iv = .int .i64 i ∧ Hid (((vs.map Vl.er).take i).all (fun y => p y && !decide (y = botT a.er)) = true) ∧ Hid (Boxes w 4 A 1 c n m sA ss.length sc cA cs.length cc vA vs.length vc wr)) (fun iv _ => vs.length - (intOf iv).toNat)
        case atStart => exact ⟨0, Nat.zero_le _, rfl, by simp [Hid], HBX⟩
        case round =>
          clear HBX c2 i0 i1 c4
          obtain ⟨i, hi, rfl, h0, HBX⟩ := hrel
          have c4 := HBX.out.c4
          by_cases hlt : i < vs.length
          · obtain ⟨hl0, -, -, hall⟩ := HS.out.out
            obtain ⟨b, off, rfl, hb, hcl⟩ := (hl0.below HBX.out.bel).get (k := 0) (by simp)
            obtain ⟨g0, g1⟩ := hcl 0 a rfl
            obtain ⟨y, hy⟩ : ∃ y, vs[i]? = some y := ⟨_, List.getElem?_eq_getElem hlt⟩
            obtain ⟨b2, off2, rfl, hb2, hy0, hy1, hy2, hy3, hy4⟩ := value_at (HP.out.vl.below HBX.out.bel) hy
            simp only [Nat.zero_mul, Nat.add_zero] at g0 g1
            have HR2 : Hid (Row2 b off a b2 (off2 + i * 5) y wr.drew) := Row2.later ⟨g0, g1, hy0, hy1, hy2, hy3, hy4, Nat.lt_of_lt_of_le hb HBX.out.bel.size, Nat.lt_of_lt_of_le hb2 HBX.out.bel.size, ((hall a (by simp)).keep HBX.out.bel).up HBX.out.bel.size, (HP.out.vk y (List.mem_of_getElem? hy)).later HBX.out.bel⟩ (drewB wr)
            have HY := Lib.hid hy
            obtain ⟨u1, hu1⟩ : ∃ z, p y.er = z := ⟨_, rfl⟩
            obtain ⟨u2, hu2⟩ : ∃ z, decide (y.er = botT a.er) = z := ⟨_, rfl⟩
            have HPQ : Hid ((fun y => p y && !decide (y = botT a.er)) y.er = (u1 && !u2)) := by show (p y.er && !decide (y.er = botT a.er)) = _; rw [hu1, hu2]
            have HU1 := Lib.hid hu1
            have HU2 := Lib.hid hu2
            clear hl0 hall hcl g0 g1 hy hy0 hy1 hy2 hy3 hy4 hu1 hu2
            obtain ⟨ak, aA, ac, al⟩ := a
            obtain ⟨yn, ym, ysA, ysc, yss, ycA, ycc, ycs, yvA, yvc, yvs⟩ := y
            simp only [S2.val_mk] at IH
            have hli : (i : Int) < (vs.length : Int) := by omega
            cases u1 with
            | false =>
              have HFA : Hid (mapV p (botT (Sc.mk ak aA ac al).er) (Vl.mk n m sA sc ss cA cc cs (some ⟨b2, off2, none⟩) vc vs).er.v = false) := by
                show mapV _ _ _ = false
                rw [er_mk]
                exact all_fail (map_at (f := Vl.er) HY.out) HPQ.out
              go_wp2_with fail
              replace HBX := Lib.hid (HBX.out.later (drewB wr))
              refine wp_region_noPanic ?_
              refine wp_region_held_drew (S := (fun w' => w'.cell? ⟨w.heap.size, 1, none⟩ = some (.slice (some ⟨b, off, none⟩) 1 c) ∧ w'.cell? ⟨w.heap.size + 1, 4, none⟩ = some (.slice (some ⟨b2, off2, none⟩) vs.length vc) ∧ w'.cell? ⟨b, off, none⟩ = some (.int .i64 ak) ∧ w'.cell? ⟨b, off + 1, none⟩ = some (.slice aA al.length ac) ∧ w'.cell? ⟨b2, off2 + i * 5, none⟩ = some (.int .u64 yn) ∧ w'.cell? ⟨b2, off2 + i * 5 + 1, none⟩ = some (.int .u64 ym) ∧ w'.cell? ⟨b2, off2 + i * 5 + 2, none⟩ = some (.slice ysA yss.length ysc) ∧ w'.cell? ⟨b2, off2 + i * 5 + 3, none⟩ = some (.slice ycA ycs.length ycc) ∧ w'.cell? ⟨b2, off2 + i * 5 + 4, none⟩ = some (.slice yvA yvs.length yvc))) (by kernel_rfl) ?_ (fun hHeld => ?_)
              · exact ⟨HBX.out.i1, HBX.out.c4, HR2.out.s0, HR2.out.s1, HR2.out.y0, HR2.out.y1, HR2.out.y2, HR2.out.y3, HR2.out.y4⟩
              refine takeH 0 33 (v := ?q1_v0) rfl rfl (by kernel_rfl) (by kernel_rfl) (by kernel_rfl) (fun _ _ _ h => h) (Or.inl ⟨by rfl, ?q1_h0⟩) (by assumption) ?q1_r0
              case q1_h0 => (intro w hSw; (try dsimp only at hSw); go_simp; try (with_reducible rfl))
              simp only [List.set_cons_zero, List.set_cons_succ]
              refine takeH 1 34 (v := ?q1_v1) rfl rfl (by kernel_rfl) (by kernel_rfl) (by kernel_rfl) (fun _ _ _ h => h) (Or.inl ⟨by rfl, ?q1_h1⟩) (by assumption) ?q1_r1
              case q1_h1 => (intro w hSw; (try dsimp only at hSw); go_simp; try (with_reducible rfl))
              simp only [List.set_cons_zero, List.set_cons_succ]
              refine takeH 2 35 (v := ?q1_v2) rfl rfl (by kernel_rfl) (by kernel_rfl) (by kernel_rfl) (fun _ _ _ h => h) (Or.inl ⟨by rfl, ?q1_h2⟩) (by assumption) ?q1_r2
              case q1_h2 => (intro w hSw; (try dsimp only at hSw); go_simp; try (with_reducible rfl))
              simp only [List.set_cons_zero, List.set_cons_succ]
              refine takeH 3 36 (v := ?q1_v3) rfl rfl (by kernel_rfl) (by kernel_rfl) (by kernel_rfl) (fun _ _ _ h => h) (Or.inl ⟨by rfl, ?q1_h3⟩) (by assumption) ?q1_r3
              case q1_h3 => (intro w hSw; (try dsimp only at hSw); go_simp; try (with_reducible rfl))
              simp only [List.set_cons_zero, List.set_cons_succ]
              refine takeH 4 37 (v := ?q1_v4) rfl rfl (by kernel_rfl) (by kernel_rfl) (by kernel_rfl) (fun _ _ _ h => h) (Or.inl ⟨by rfl, ?q1_h4⟩) (by assumption) ?q1_r4
              case q1_h4 => (intro w hSw; (try dsimp only at hSw); go_simp; try (with_reducible rfl))
              simp only [List.set_cons_zero, List.set_cons_succ]
              refine takeH 5 38 (v := ?q1_v5) rfl rfl (by kernel_rfl) (by kernel_rfl) (by kernel_rfl) (fun _ _ _ h => h) (Or.inl ⟨by rfl, ?q1_h5⟩) (by assumption) ?q1_r5
              case q1_h5 => (intro w hSw; (try dsimp only at hSw); go_simp; try (with_reducible rfl))
              simp only [List.set_cons_zero, List.set_cons_succ]
              refine takeH 6 39 (v := ?q1_v6) rfl rfl (by kernel_rfl) (by kernel_rfl) (by kernel_rfl) (fun _ _ _ h => h) (Or.inl ⟨by rfl, ?q1_h6⟩) (by assumption) ?q1_r6
              case q1_h6 => (intro w hSw; (try dsimp only at hSw); go_simp; try (with_reducible rfl))
              simp only [List.set_cons_zero, List.set_cons_succ]
              refine takeH 7 40 (v := ?q1_v7) rfl rfl (by kernel_rfl) (by kernel_rfl) (by kernel_rfl) (fun _ _ _ h => h) (Or.inl ⟨by rfl, ?q1_h7⟩) (by assumption) ?q1_r7
              case q1_h7 => (intro w hSw; (try dsimp only at hSw); go_simp; try (with_reducible rfl))
              simp only [List.set_cons_zero, List.set_cons_succ]
              refine takeH 8 41 (v := ?q1_v8) rfl rfl (by kernel_rfl) (by kernel_rfl) (by kernel_rfl) (fun _ _ _ h => h) (Or.inl ⟨by rfl, ?q1_h8⟩) (by assumption) ?q1_r8
              case q1_h8 => (intro w hSw; (try dsimp only at hSw); go_simp; try (with_reducible rfl))
              simp only [List.set_cons_zero, List.set_cons_succ]
              refine wpAnyH_ready (rs := [9]) (by kernel_rfl) (by simp) ?_
              refine AllReadyH.cons rfl (fun K hK => ?_) AllReadyH.nil
              go_simp
              go_wp2_with (go_at_call 32; refine (IH.out (.mk yn ym ysA ysc yss ycA ycc ycs yvA yvc yvs) _ HR2.out.ia HR2.out.iy).mono ?_; rintro e w5 ⟨rfl, hb5⟩; (rw [HU1.out]; replace HBX := Lib.hid (HBX.out.later hb5); replace HR2 := Lib.hid (HR2.out.later hb5); clear hb5))
              refine hK.out _ _ ?_ (fun hHeld => ?_)
              · exact ⟨HBX.out.i1, HBX.out.c4, HR2.out.s0, HR2.out.s1, HR2.out.y0, HR2.out.y1, HR2.out.y2, HR2.out.y3, HR2.out.y4⟩
              clear hK K
              refine takeH 10 43 (v := ?q1_v10) rfl rfl (by kernel_rfl) (by kernel_rfl) (by kernel_rfl) (fun _ _ _ h => h) (Or.inl ⟨by rfl, ?q1_h10⟩) (by assumption) ?q1_r10
              case q1_h10 => (intro w hSw; (try dsimp only at hSw); go_simp; try (with_reducible rfl))
              simp only [List.set_cons_zero, List.set_cons_succ]
              refine takeH 11 44 (v := ?q1_v11) rfl rfl (by kernel_rfl) (by kernel_rfl) (by kernel_rfl) (fun _ _ _ h => h) (Or.inl ⟨by rfl, ?q1_h11⟩) (by assumption) ?q1_r11
              case q1_h11 => (intro w hSw; (try dsimp only at hSw); go_simp; try (with_reducible rfl))
              simp only [List.set_cons_zero, List.set_cons_succ]
              refine takeH 12 45 (v := undef) rfl rfl (by kernel_rfl) (by kernel_rfl) (by kernel_rfl) (fun _ _ _ h => h) (Or.inr ⟨by rfl, rfl⟩) (by assumption) ?_
              simp only [List.set_cons_zero, List.set_cons_succ]
              refine takeH 13 46 (v := undef) rfl rfl (by kernel_rfl) (by kernel_rfl) (by kernel_rfl) (fun _ _ _ h => h) (Or.inr ⟨by rfl, rfl⟩) (by assumption) ?_
              simp only [List.set_cons_zero, List.set_cons_succ]
              refine takeH 14 47 (v := undef) rfl rfl (by kernel_rfl) (by kernel_rfl) (by kernel_rfl) (fun _ _ _ h => h) (Or.inr ⟨by rfl, rfl⟩) (by assumption) ?_
              simp only [List.set_cons_zero, List.set_cons_succ]
              refine takeH 15 48 (v := undef) rfl rfl (by kernel_rfl) (by kernel_rfl) (by kernel_rfl) (fun _ _ _ h => h) (Or.inr ⟨by rfl, rfl⟩) (by assumption) ?_
              simp only [List.set_cons_zero, List.set_cons_succ]
              refine takeH 16 49 (v := undef) rfl rfl (by kernel_rfl) (by kernel_rfl) (by kernel_rfl) (fun _ _ _ h => h) (Or.inr ⟨by rfl, rfl⟩) (by assumption) ?_
              simp only [List.set_cons_zero, List.set_cons_succ]
              refine takeH 17 50 (v := undef) rfl rfl (by kernel_rfl) (by kernel_rfl) (by kernel_rfl) (fun _ _ _ h => h) (Or.inr ⟨by rfl, rfl⟩) (by assumption) ?_
              simp only [List.set_cons_zero, List.set_cons_succ]
              refine takeH 18 51 (v := undef) rfl rfl (by kernel_rfl) (by kernel_rfl) (by kernel_rfl) (fun _ _ _ h => h) (Or.inr ⟨by rfl, rfl⟩) (by assumption) ?_
              simp only [List.set_cons_zero, List.set_cons_succ]
              refine takeH 19 52 (v := undef) rfl rfl (by kernel_rfl) (by kernel_rfl) (by kernel_rfl) (fun _ _ _ h => h) (Or.inr ⟨by rfl, rfl⟩) (by assumption) ?_
              simp only [List.set_cons_zero, List.set_cons_succ]
              refine takeH 20 53 (v := undef) rfl rfl (by kernel_rfl) (by kernel_rfl) (by kernel_rfl) (fun _ _ _ h => h) (Or.inr ⟨by rfl, rfl⟩) (by assumption) ?_
              simp only [List.set_cons_zero, List.set_cons_succ]
              refine takeH 21 54 (v := undef) rfl rfl (by kernel_rfl) (by kernel_rfl) (by kernel_rfl) (fun _ _ _ h => h) (Or.inr ⟨by rfl, rfl⟩) (by assumption) ?_
              simp only [List.set_cons_zero, List.set_cons_succ]
              refine takeH 22 55 (v := ?q1_v22) rfl rfl (by kernel_rfl) (by kernel_rfl) (by kernel_rfl) (fun _ _ _ h => h) (Or.inl ⟨by rfl, ?q1_h22⟩) (by assumption) ?q1_r22
              case q1_h22 => (intro w hSw; (try dsimp only at hSw); go_simp; try (with_reducible rfl))
              simp only [List.set_cons_zero, List.set_cons_succ]
              refine wpAnyH_done (by kernel_rfl) ?_ _
              refine NoPanic.normal ?_
              go_wp2_with fail
              go_ret
              exact ⟨ret_bool (by rw [HFA.out]; rfl), HBX.out.bel⟩
            | true =>
              cases u2 with
              | true =>
                have HFA : Hid (mapV p (botT (Sc.mk ak aA ac al).er) (Vl.mk n m sA sc ss cA cc cs (some ⟨b2, off2, none⟩) vc vs).er.v = false) := by
                  show mapV _ _ _ = false
                  rw [er_mk]
                  exact all_fail (map_at (f := Vl.er) HY.out) HPQ.out
                go_wp2_with fail
                replace HBX := Lib.hid (HBX.out.later (drewB wr))
                refine wp_region_noPanic ?_
                refine wp_region_held_drew (S := (fun w' => w'.cell? ⟨w.heap.size, 1, none⟩ = some (.slice (some ⟨b, off, none⟩) 1 c) ∧ w'.cell? ⟨w.heap.size + 1, 4, none⟩ = some (.slice (some ⟨b2, off2, none⟩) vs.length vc) ∧ w'.cell? ⟨b, off, none⟩ = some (.int .i64 ak) ∧ w'.cell? ⟨b, off + 1, none⟩ = some (.slice aA al.length ac) ∧ w'.cell? ⟨b2, off2 + i * 5, none⟩ = some (.int .u64 yn) ∧ w'.cell? ⟨b2, off2 + i * 5 + 1, none⟩ = some (.int .u64 ym) ∧ w'.cell? ⟨b2, off2 + i * 5 + 2, none⟩ = some (.slice ysA yss.length ysc) ∧ w'.cell? ⟨b2, off2 + i * 5 + 3, none⟩ = some (.slice ycA ycs.length ycc) ∧ w'.cell? ⟨b2, off2 + i * 5 + 4, none⟩ = some (.slice yvA yvs.length yvc))) (by kernel_rfl) ?_ (fun hHeld => ?_)
                · exact ⟨HBX.out.i1, HBX.out.c4, HR2.out.s0, HR2.out.s1, HR2.out.y0, HR2.out.y1, HR2.out.y2, HR2.out.y3, HR2.out.y4⟩
                refine takeH 0 33 (v := ?q2_v0) rfl rfl (by kernel_rfl) (by kernel_rfl) (by kernel_rfl) (fun _ _ _ h => h) (Or.inl ⟨by rfl, ?q2_h0⟩) (by assumption) ?q2_r0
                case q2_h0 => (intro w hSw; (try dsimp only at hSw); go_simp; try (with_reducible rfl))
                simp only [List.set_cons_zero, List.set_cons_succ]
                refine takeH 1 34 (v := ?q2_v1) rfl rfl (by kernel_rfl) (by kernel_rfl) (by kernel_rfl) (fun _ _ _ h => h) (Or.inl ⟨by rfl, ?q2_h1⟩) (by assumption) ?q2_r1
                case q2_h1 => (intro w hSw; (try dsimp only at hSw); go_simp; try (with_reducible rfl))
                simp only [List.set_cons_zero, List.set_cons_succ]
                refine takeH 2 35 (v := ?q2_v2) rfl rfl (by kernel_rfl) (by kernel_rfl) (by kernel_rfl) (fun _ _ _ h => h) (Or.inl ⟨by rfl, ?q2_h2⟩) (by assumption) ?q2_r2
                case q2_h2 => (intro w hSw; (try dsimp only at hSw); go_simp; try (with_reducible rfl))
                simp only [List.set_cons_zero, List.set_cons_succ]
                refine takeH 3 36 (v := ?q2_v3) rfl rfl (by kernel_rfl) (by kernel_rfl) (by kernel_rfl) (fun _ _ _ h => h) (Or.inl ⟨by rfl, ?q2_h3⟩) (by assumption) ?q2_r3
                case q2_h3 => (intro w hSw; (try dsimp only at hSw); go_simp; try (with_reducible rfl))
                simp only [List.set_cons_zero, List.set_cons_succ]
                refine takeH 4 37 (v := ?q2_v4) rfl rfl (by kernel_rfl) (by kernel_rfl) (by kernel_rfl) (fun _ _ _ h => h) (Or.inl ⟨by rfl, ?q2_h4⟩) (by assumption) ?q2_r4
                case q2_h4 => (intro w hSw; (try dsimp only at hSw); go_simp; try (with_reducible rfl))
                simp only [List.set_cons_zero, List.set_cons_succ]
                refine takeH 5 38 (v := ?q2_v5) rfl rfl (by kernel_rfl) (by kernel_rfl) (by kernel_rfl) (fun _ _ _ h => h) (Or.inl ⟨by rfl, ?q2_h5⟩) (by assumption) ?q2_r5
                case q2_h5 => (intro w hSw; (try dsimp only at hSw); go_simp; try (with_reducible rfl))
                simp only [List.set_cons_zero, List.set_cons_succ]
                refine takeH 6 39 (v := ?q2_v6) rfl rfl (by kernel_rfl) (by kernel_rfl) (by kernel_rfl) (fun _ _ _ h => h) (Or.inl ⟨by rfl, ?q2_h6⟩) (by assumption) ?q2_r6
                case q2_h6 => (intro w hSw; (try dsimp only at hSw); go_simp; try (with_reducible rfl))
                simp only [List.set_cons_zero, List.set_cons_succ]
                refine takeH 7 40 (v := ?q2_v7) rfl rfl (by kernel_rfl) (by kernel_rfl) (by kernel_rfl) (fun _ _ _ h => h) (Or.inl ⟨by rfl, ?q2_h7⟩) (by assumption) ?q2_r7
                case q2_h7 => (intro w hSw; (try dsimp only at hSw); go_simp; try (with_reducible rfl))
                simp only [List.set_cons_zero, List.set_cons_succ]
                refine takeH 8 41 (v := ?q2_v8) rfl rfl (by kernel_rfl) (by kernel_rfl) (by kernel_rfl) (fun _ _ _ h => h) (Or.inl ⟨by rfl, ?q2_h8⟩) (by assumption) ?q2_r8
                case q2_h8 => (intro w hSw; (try dsimp only at hSw); go_simp; try (with_reducible rfl))
                simp only [List.set_cons_zero, List.set_cons_succ]
                refine wpAnyH_ready (rs := [9]) (by kernel_rfl) (by simp) ?_
                refine AllReadyH.cons rfl (fun K hK => ?_) AllReadyH.nil
                go_simp
                go_wp2_with (go_at_call 32; refine (IH.out (.mk yn ym ysA ysc yss ycA ycc ycs yvA yvc yvs) _ HR2.out.ia HR2.out.iy).mono ?_; rintro e w5 ⟨rfl, hb5⟩; (rw [HU1.out]; replace HBX := Lib.hid (HBX.out.later hb5); replace HR2 := Lib.hid (HR2.out.later hb5); clear hb5))
                refine hK.out _ _ ?_ (fun hHeld => ?_)
                · exact ⟨HBX.out.i1, HBX.out.c4, HR2.out.s0, HR2.out.s1, HR2.out.y0, HR2.out.y1, HR2.out.y2, HR2.out.y3, HR2.out.y4⟩
                clear hK K
                refine takeH 10 43 (v := ?q2_v10) rfl rfl (by kernel_rfl) (by kernel_rfl) (by kernel_rfl) (fun _ _ _ h => h) (Or.inl ⟨by rfl, ?q2_h10⟩) (by assumption) ?q2_r10
                case q2_h10 => (intro w hSw; (try dsimp only at hSw); go_simp; try (with_reducible rfl))
                simp only [List.set_cons_zero, List.set_cons_succ]
                refine takeH 11 44 (v := ?q2_v11) rfl rfl (by kernel_rfl) (by kernel_rfl) (by kernel_rfl) (fun _ _ _ h => h) (Or.inl ⟨by rfl, ?q2_h11⟩) (by assumption) ?q2_r11
                case q2_h11 => (intro w hSw; (try dsimp only at hSw); go_simp; try (with_reducible rfl))
                simp only [List.set_cons_zero, List.set_cons_succ]
                refine takeH 12 45 (v := ?q2_v12) rfl rfl (by kernel_rfl) (by kernel_rfl) (by kernel_rfl) (fun _ _ _ h => h) (Or.inl ⟨by rfl, ?q2_h12⟩) (by assumption) ?q2_r12
                case q2_h12 => (intro w hSw; (try dsimp only at hSw); go_simp; try (with_reducible rfl))
                simp only [List.set_cons_zero, List.set_cons_succ]
                refine takeH 13 46 (v := ?q2_v13) rfl rfl (by kernel_rfl) (by kernel_rfl) (by kernel_rfl) (fun _ _ _ h => h) (Or.inl ⟨by rfl, ?q2_h13⟩) (by assumption) ?q2_r13
                case q2_h13 => (intro w hSw; (try dsimp only at hSw); go_simp; try (with_reducible rfl))
                simp only [List.set_cons_zero, List.set_cons_succ]
                refine takeH 14 47 (v := ?q2_v14) rfl rfl (by kernel_rfl) (by kernel_rfl) (by kernel_rfl) (fun _ _ _ h => h) (Or.inl ⟨by rfl, ?q2_h14⟩) (by assumption) ?q2_r14
                case q2_h14 => (intro w hSw; (try dsimp only at hSw); go_simp; try (with_reducible rfl))
                simp only [List.set_cons_zero, List.set_cons_succ]
                refine takeH 15 48 (v := ?q2_v15) rfl rfl (by kernel_rfl) (by kernel_rfl) (by kernel_rfl) (fun _ _ _ h => h) (Or.inl ⟨by rfl, ?q2_h15⟩) (by assumption) ?q2_r15
                case q2_h15 => (intro w hSw; (try dsimp only at hSw); go_simp; try (with_reducible rfl))
                simp only [List.set_cons_zero, List.set_cons_succ]
                refine takeH 16 49 (v := ?q2_v16) rfl rfl (by kernel_rfl) (by kernel_rfl) (by kernel_rfl) (fun _ _ _ h => h) (Or.inl ⟨by rfl, ?q2_h16⟩) (by assumption) ?q2_r16
                case q2_h16 => (intro w hSw; (try dsimp only at hSw); go_simp; try (with_reducible rfl))
                simp only [List.set_cons_zero, List.set_cons_succ]
                refine takeH 17 50 (v := ?q2_v17) rfl rfl (by kernel_rfl) (by kernel_rfl) (by kernel_rfl) (fun _ _ _ h => h) (Or.inl ⟨by rfl, ?q2_h17⟩) (by assumption) ?q2_r17
                case q2_h17 => (intro w hSw; (try dsimp only at hSw); go_simp; try (with_reducible rfl))
                simp only [List.set_cons_zero, List.set_cons_succ]
                refine takeH 18 51 (v := ?q2_v18) rfl rfl (by kernel_rfl) (by kernel_rfl) (by kernel_rfl) (fun _ _ _ h => h) (Or.inl ⟨by rfl, ?q2_h18⟩) (by assumption) ?q2_r18
                case q2_h18 => (intro w hSw; (try dsimp only at hSw); go_simp; try (with_reducible rfl))
                simp only [List.set_cons_zero, List.set_cons_succ]
                refine takeH 19 52 (v := ?q2_v19) rfl rfl (by kernel_rfl) (by kernel_rfl) (by kernel_rfl) (fun _ _ _ h => h) (Or.inl ⟨by rfl, ?q2_h19⟩) (by assumption) ?q2_r19
                case q2_h19 => (intro w hSw; (try dsimp only at hSw); go_simp; try (with_reducible rfl))
                simp only [List.set_cons_zero, List.set_cons_succ]
                refine takeH 20 53 (v := ?q2_v20) rfl rfl (by kernel_rfl) (by kernel_rfl) (by kernel_rfl) (fun _ _ _ h => h) (Or.inl ⟨by rfl, ?q2_h20⟩) (by assumption) ?q2_r20
                case q2_h20 => (intro w hSw; (try dsimp only at hSw); go_simp; try (with_reducible rfl))
                simp only [List.set_cons_zero, List.set_cons_succ]
                refine wpAnyH_ready (rs := [21]) (by kernel_rfl) (by simp) ?_
                refine AllReadyH.cons rfl (fun K hK => ?_) AllReadyH.nil
                go_simp
                go_wp2_with (go_at_call 22; refine (refNone_any (.mk ak aA ac al) (.mk yn ym ysA ysc yss ycA ycc ycs yvA yvc yvs) _ HR2.out.ia HR2.out.iy).mono ?_; rintro e w6 ⟨rfl, hb5⟩; (rw [HU2.out]; replace HBX := Lib.hid (HBX.out.later hb5); replace HR2 := Lib.hid (HR2.out.later hb5); clear hb5))
                refine hK.out _ _ ?_ (fun hHeld => ?_)
                · exact ⟨HBX.out.i1, HBX.out.c4, HR2.out.s0, HR2.out.s1, HR2.out.y0, HR2.out.y1, HR2.out.y2, HR2.out.y3, HR2.out.y4⟩
                clear hK K
                refine takeH 22 55 (v := ?q2_v22) rfl rfl (by kernel_rfl) (by kernel_rfl) (by kernel_rfl) (fun _ _ _ h => h) (Or.inl ⟨by rfl, ?q2_h22⟩) (by assumption) ?q2_r22
                case q2_h22 => (intro w hSw; (try dsimp only at hSw); go_simp; try (with_reducible rfl))
                simp only [List.set_cons_zero, List.set_cons_succ]
                refine wpAnyH_done (by kernel_rfl) ?_ _
                refine NoPanic.normal ?_
                go_wp2_with fail
                go_ret
                exact ⟨ret_bool (by rw [HFA.out]; rfl), HBX.out.bel⟩
              | false =>
                go_wp2_with fail
                replace HBX := Lib.hid (HBX.out.later (drewB wr))
                refine wp_region_noPanic ?_
                refine wp_region_held_drew (S := (fun w' => w'.cell? ⟨w.heap.size, 1, none⟩ = some (.slice (some ⟨b, off, none⟩) 1 c) ∧ w'.cell? ⟨w.heap.size + 1, 4, none⟩ = some (.slice (some ⟨b2, off2, none⟩) vs.length vc) ∧ w'.cell? ⟨b, off, none⟩ = some (.int .i64 ak) ∧ w'.cell? ⟨b, off + 1, none⟩ = some (.slice aA al.length ac) ∧ w'.cell? ⟨b2, off2 + i * 5, none⟩ = some (.int .u64 yn) ∧ w'.cell? ⟨b2, off2 + i * 5 + 1, none⟩ = some (.int .u64 ym) ∧ w'.cell? ⟨b2, off2 + i * 5 + 2, none⟩ = some (.slice ysA yss.length ysc) ∧ w'.cell? ⟨b2, off2 + i * 5 + 3, none⟩ = some (.slice ycA ycs.length ycc) ∧ w'.cell? ⟨b2, off2 + i * 5 + 4, none⟩ = some (.slice yvA yvs.length yvc))) (by kernel_rfl) ?_ (fun hHeld => ?_)
                · exact ⟨HBX.out.i1, HBX.out.c4, HR2.out.s0, HR2.out.s1, HR2.out.y0, HR2.out.y1, HR2.out.y2, HR2.out.y3, HR2.out.y4⟩
                refine takeH 0 33 (v := ?q3_v0) rfl rfl (by kernel_rfl) (by kernel_rfl) (by kernel_rfl) (fun _ _ _ h => h) (Or.inl ⟨by rfl, ?q3_h0⟩) (by assumption) ?q3_r0
                case q3_h0 => (intro w hSw; (try dsimp only at hSw); go_simp; try (with_reducible rfl))
                simp only [List.set_cons_zero, List.set_cons_succ]
                refine takeH 1 34 (v := ?q3_v1) rfl rfl (by kernel_rfl) (by kernel_rfl) (by kernel_rfl) (fun _ _ _ h => h) (Or.inl ⟨by rfl, ?q3_h1⟩) (by assumption) ?q3_r1
                case q3_h1 => (intro w hSw; (try dsimp only at hSw); go_simp; try (with_reducible rfl))
                simp only [List.set_cons_zero, List.set_cons_succ]
                refine takeH 2 35 (v := ?q3_v2) rfl rfl (by kernel_rfl) (by kernel_rfl) (by kernel_rfl) (fun _ _ _ h => h) (Or.inl ⟨by rfl, ?q3_h2⟩) (by assumption) ?q3_r2
                case q3_h2 => (intro w hSw; (try dsimp only at hSw); go_simp; try (with_reducible rfl))
                simp only [List.set_cons_zero, List.set_cons_succ]
                refine takeH 3 36 (v := ?q3_v3) rfl rfl (by kernel_rfl) (by kernel_rfl) (by kernel_rfl) (fun _ _ _ h => h) (Or.inl ⟨by rfl, ?q3_h3⟩) (by assumption) ?q3_r3
                case q3_h3 => (intro w hSw; (try dsimp only at hSw); go_simp; try (with_reducible rfl))
                simp only [List.set_cons_zero, List.set_cons_succ]
                refine takeH 4 37 (v := ?q3_v4) rfl rfl (by kernel_rfl) (by kernel_rfl) (by kernel_rfl) (fun _ _ _ h => h) (Or.inl ⟨by rfl, ?q3_h4⟩) (by assumption) ?q3_r4
                case q3_h4 => (intro w hSw; (try dsimp only at hSw); go_simp; try (with_reducible rfl))
                simp only [List.set_cons_zero, List.set_cons_succ]
                refine takeH 5 38 (v := ?q3_v5) rfl rfl (by kernel_rfl) (by kernel_rfl) (by kernel_rfl) (fun _ _ _ h => h) (Or.inl ⟨by rfl, ?q3_h5⟩) (by assumption) ?q3_r5
                case q3_h5 => (intro w hSw; (try dsimp only at hSw); go_simp; try (with_reducible rfl))
                simp only [List.set_cons_zero, List.set_cons_succ]
                refine takeH 6 39 (v := ?q3_v6) rfl rfl (by kernel_rfl) (by kernel_rfl) (by kernel_rfl) (fun _ _ _ h => h) (Or.inl ⟨by rfl, ?q3_h6⟩) (by assumption) ?q3_r6
                case q3_h6 => (intro w hSw; (try dsimp only at hSw); go_simp; try (with_reducible rfl))
                simp only [List.set_cons_zero, List.set_cons_succ]
                refine takeH 7 40 (v := ?q3_v7) rfl rfl (by kernel_rfl) (by kernel_rfl) (by kernel_rfl) (fun _ _ _ h => h) (Or.inl ⟨by rfl, ?q3_h7⟩) (by assumption) ?q3_r7
                case q3_h7 => (intro w hSw; (try dsimp only at hSw); go_simp; try (with_reducible rfl))
                simp only [List.set_cons_zero, List.set_cons_succ]
                refine takeH 8 41 (v := ?q3_v8) rfl rfl (by kernel_rfl) (by kernel_rfl) (by kernel_rfl) (fun _ _ _ h => h) (Or.inl ⟨by rfl, ?q3_h8⟩) (by assumption) ?q3_r8
                case q3_h8 => (intro w hSw; (try dsimp only at hSw); go_simp; try (with_reducible rfl))
                simp only [List.set_cons_zero, List.set_cons_succ]
                refine wpAnyH_ready (rs := [9]) (by kernel_rfl) (by simp) ?_
                refine AllReadyH.cons rfl (fun K hK => ?_) AllReadyH.nil
                go_simp
                go_wp2_with (go_at_call 32; refine (IH.out (.mk yn ym ysA ysc yss ycA ycc ycs yvA yvc yvs) _ HR2.out.ia HR2.out.iy).mono ?_; rintro e w5 ⟨rfl, hb5⟩; (rw [HU1.out]; replace HBX := Lib.hid (HBX.out.later hb5); replace HR2 := Lib.hid (HR2.out.later hb5); clear hb5))
                refine hK.out _ _ ?_ (fun hHeld => ?_)
                · exact ⟨HBX.out.i1, HBX.out.c4, HR2.out.s0, HR2.out.s1, HR2.out.y0, HR2.out.y1, HR2.out.y2, HR2.out.y3, HR2.out.y4⟩
                clear hK K
                refine takeH 10 43 (v := ?q3_v10) rfl rfl (by kernel_rfl) (by kernel_rfl) (by kernel_rfl) (fun _ _ _ h => h) (Or.inl ⟨by rfl, ?q3_h10⟩) (by assumption) ?q3_r10
                case q3_h10 => (intro w hSw; (try dsimp only at hSw); go_simp; try (with_reducible rfl))
                simp only [List.set_cons_zero, List.set_cons_succ]
                refine takeH 11 44 (v := ?q3_v11) rfl rfl (by kernel_rfl) (by kernel_rfl) (by kernel_rfl) (fun _ _ _ h => h) (Or.inl ⟨by rfl, ?q3_h11⟩) (by assumption) ?q3_r11
                case q3_h11 => (intro w hSw; (try dsimp only at hSw); go_simp; try (with_reducible rfl))
                simp only [List.set_cons_zero, List.set_cons_succ]
                refine takeH 12 45 (v := ?q3_v12) rfl rfl (by kernel_rfl) (by kernel_rfl) (by kernel_rfl) (fun _ _ _ h => h) (Or.inl ⟨by rfl, ?q3_h12⟩) (by assumption) ?q3_r12
                case q3_h12 => (intro w hSw; (try dsimp only at hSw); go_simp; try (with_reducible rfl))
                simp only [List.set_cons_zero, List.set_cons_succ]
                refine takeH 13 46 (v := ?q3_v13) rfl rfl (by kernel_rfl) (by kernel_rfl) (by kernel_rfl) (fun _ _ _ h => h) (Or.inl ⟨by rfl, ?q3_h13⟩) (by assumption) ?q3_r13
                case q3_h13 => (intro w hSw; (try dsimp only at hSw); go_simp; try (with_reducible rfl))
                simp only [List.set_cons_zero, List.set_cons_succ]
                refine takeH 14 47 (v := ?q3_v14) rfl rfl (by kernel_rfl) (by kernel_rfl) (by kernel_rfl) (fun _ _ _ h => h) (Or.inl ⟨by rfl, ?q3_h14⟩) (by assumption) ?q3_r14
                case q3_h14 => (intro w hSw; (try dsimp only at hSw); go_simp; try (with_reducible rfl))
                simp only [List.set_cons_zero, List.set_cons_succ]
                refine takeH 15 48 (v := ?q3_v15) rfl rfl (by kernel_rfl) (by kernel_rfl) (by kernel_rfl) (fun _ _ _ h => h) (Or.inl ⟨by rfl, ?q3_h15⟩) (by assumption) ?q3_r15
                case q3_h15 => (intro w hSw; (try dsimp only at hSw); go_simp; try (with_reducible rfl))
                simp only [List.set_cons_zero, List.set_cons_succ]
                refine takeH 16 49 (v := ?q3_v16) rfl rfl (by kernel_rfl) (by kernel_rfl) (by kernel_rfl) (fun _ _ _ h => h) (Or.inl ⟨by rfl, ?q3_h16⟩) (by assumption) ?q3_r16
                case q3_h16 => (intro w hSw; (try dsimp only at hSw); go_simp; try (with_reducible rfl))
                simp only [List.set_cons_zero, List.set_cons_succ]
                refine takeH 17 50 (v := ?q3_v17) rfl rfl (by kernel_rfl) (by kernel_rfl) (by kernel_rfl) (fun _ _ _ h => h) (Or.inl ⟨by rfl, ?q3_h17⟩) (by assumption) ?q3_r17
                case q3_h17 => (intro w hSw; (try dsimp only at hSw); go_simp; try (with_reducible rfl))
                simp only [List.set_cons_zero, List.set_cons_succ]
                refine takeH 18 51 (v := ?q3_v18) rfl rfl (by kernel_rfl) (by kernel_rfl) (by kernel_rfl) (fun _ _ _ h => h) (Or.inl ⟨by rfl, ?q3_h18⟩) (by assumption) ?q3_r18
                case q3_h18 => (intro w hSw; (try dsimp only at hSw); go_simp; try (with_reducible rfl))
                simp only [List.set_cons_zero, List.set_cons_succ]
                refine takeH 19 52 (v := ?q3_v19) rfl rfl (by kernel_rfl) (by kernel_rfl) (by kernel_rfl) (fun _ _ _ h => h) (Or.inl ⟨by rfl, ?q3_h19⟩) (by assumption) ?q3_r19
                case q3_h19 => (intro w hSw; (try dsimp only at hSw); go_simp; try (with_reducible rfl))
                simp only [List.set_cons_zero, List.set_cons_succ]
                refine takeH 20 53 (v := ?q3_v20) rfl rfl (by kernel_rfl) (by kernel_rfl) (by kernel_rfl) (fun _ _ _ h => h) (Or.inl ⟨by rfl, ?q3_h20⟩) (by assumption) ?q3_r20
                case q3_h20 => (intro w hSw; (try dsimp only at hSw); go_simp; try (with_reducible rfl))
                simp only [List.set_cons_zero, List.set_cons_succ]
                refine wpAnyH_ready (rs := [21]) (by kernel_rfl) (by simp) ?_
                refine AllReadyH.cons rfl (fun K hK => ?_) AllReadyH.nil
                go_simp
                go_wp2_with (go_at_call 22; refine (refNone_any (.mk ak aA ac al) (.mk yn ym ysA ysc yss ycA ycc ycs yvA yvc yvs) _ HR2.out.ia HR2.out.iy).mono ?_; rintro e w6 ⟨rfl, hb5⟩; (rw [HU2.out]; replace HBX := Lib.hid (HBX.out.later hb5); replace HR2 := Lib.hid (HR2.out.later hb5); clear hb5))
                refine hK.out _ _ ?_ (fun hHeld => ?_)
                · exact ⟨HBX.out.i1, HBX.out.c4, HR2.out.s0, HR2.out.s1, HR2.out.y0, HR2.out.y1, HR2.out.y2, HR2.out.y3, HR2.out.y4⟩
                clear hK K
                refine takeH 22 55 (v := ?q3_v22) rfl rfl (by kernel_rfl) (by kernel_rfl) (by kernel_rfl) (fun _ _ _ h => h) (Or.inl ⟨by rfl, ?q3_h22⟩) (by assumption) ?q3_r22
                case q3_h22 => (intro w hSw; (try dsimp only at hSw); go_simp; try (with_reducible rfl))
                simp only [List.set_cons_zero, List.set_cons_succ]
                refine wpAnyH_done (by kernel_rfl) ?_ _
                refine NoPanic.normal ?_
                go_wp2_with fail
                go_roundw
                case rel => exact ⟨i + 1, by omega, by go_num, all_succ h0.out (map_at (f := Vl.er) HY.out) HPQ.out, HBX⟩
                case measure => simp [intOf]; omega
          · have HFA : Hid (mapV p (botT a.er) (Vl.mk n m sA sc ss cA cc cs vA vc vs).er.v = true) := by
              show mapV _ _ _ = true
              rw [er_mk]
              exact all_end h0.out (by show (List.map Vl.er vs).length ≤ i; rw [List.length_map]; omega)
            go_wp2_with fail
            go_ret
            exact ⟨ret_bool (by rw [HFA.out]; rfl), HBX.out.bel⟩

set_option maxRecDepth 100000 in
set_option maxHeartbeats 4000000 in
theorem refIsV_5 (A : Option Addr) (c : Nat) (a a' : Sc) (x : Vl) (w : World) (hs : (Sc.mk 5 A c [a, a']).In w.heap.size w) (hx : x.In w) (p p' : Va → Bool) (ih : ∀ (y : Vl) (w : World), a.In w.heap.size w → y.In w → Calls Tryz.prog 32 #[a.val, y.val] w (RetV w (.bool (p y.er)))) (ih2 : ∀ (y : Vl) (w : World), a'.In w.heap.size w → y.In w → Calls Tryz.prog 32 #[a'.val, y.val] w (RetV w (.bool (p' y.er)))) : Calls Tryz.prog 32 #[(Sc.mk 5 A c [a, a']).val, x.val] w (RetV w (.bool (baseV 5 x.er && pairV p p' x.er.v))) := by
  obtain ⟨n, m, sA, sc, ss, cA, cc, cs, vA, vc, vs⟩ := x
  have HS := Lib.hid hs
  have IH := Lib.hid ih
  have IH2 := Lib.hid ih2
  clear hs ih ih2
  have HB0 : Hid (Below w.heap.size w ((w.alloc (.cells #[.int .i64 5, .slice A 2 c] 24)).alloc (.cells #[.int .u64 n, .int .u64 m, .slice sA ss.length sc, .slice cA cs.length cc, .slice vA vs.length vc] 32))) := belAl (allocB _ _)
  have HX := Lib.hid (hx.later HB0.out)
  have P := hx.out
  have HP := Lib.hid P
  have HSB : Hid (ss.length ≤ maxLen) := Nat.le_trans P.sb.1 P.sb.2.1
  have hsm : ss.length ≤ 9223372036854775807 := by have := P.sb; unfold maxLen at this; omega
  have hcm : cs.length ≤ 9223372036854775807 := by have := P.cb; unfold maxLen at this; omega
  have hvm : vs.length ≤ 9223372036854775807 := by have := P.vb; unfold maxLen at this; omega
  obtain ⟨t, ht⟩ : ∃ z, fitsV 5 (Vl.mk n m sA sc ss cA cc cs vA vc vs).er = z := ⟨_, rfl⟩
  obtain ⟨u, hu⟩ : ∃ z, decide (R1.Srt ss) = z := ⟨_, rfl⟩
  obtain ⟨q, hq⟩ : ∃ z, decide (ss.length ≤ 40) = z := ⟨_, rfl⟩
  have HF : Hid (baseV 5 (Vl.mk n m sA sc ss cA cc cs vA vc vs).er = (t && (u && q))) := by
    show baseV _ _ = _
    unfold baseV
    rw [ht, er_mk, show (Va.mk n m ss (cs.map Ck.l) (vs.map Vl.er)).s = ss from rfl, hu, hq]
  have HT := Lib.hid ht
  have HU := Lib.hid hu
  have HQ := Lib.hid hq
  rw [HF.out]
  clear hx P ht hu hq HF
  simp only [S2.val_mk, val_mk, List.length_nil, List.length_cons, Nat.zero_add, Nat.reduceAdd]
  go_enter Tryz.func32, Tryz.ntmps32
  go_wp2_with fail
  refine (refFits_at 5 A c 2 n m sA sc ss cA cc cs vA vc vs t _ HX.out HT.out).mono ?_
  rintro e w1 ⟨rfl, hb1⟩
  have HBX : Hid (Boxes w 5 A 2 c n m sA ss.length sc cA cs.length cc vA vs.length vc w1) := Boxes.later ⟨by go_simp, by go_simp, by go_simp, by go_simp, by go_simp, by go_simp, by go_simp, by simp, HB0.out⟩ hb1
  clear hb1 HB0 HX
  cases t with
  | false =>
    go_wp2_with fail
    go_ret
    exact ⟨rfl, HBX.out.bel⟩
  | true =>
    have c2 := HBX.out.c2
    go_wp2_with fail
    refine (refRises_at sA sc ss u _ (HP.out.sl.below HBX.out.bel) HSB.out HU.out).mono ?_
    rintro e w2 ⟨rfl, hb2⟩
    replace HBX := Lib.hid (HBX.out.later hb2)
    clear hb2 c2
    cases u with
    | false =>
      go_wp2_with fail
      go_ret
      exact ⟨rfl, HBX.out.bel⟩
    | true =>
      have c2 := HBX.out.c2
      have i0 := HBX.out.i0
      cases q with
      | false =>
        have dq : 40 < ss.length := by have := of_decide_eq_false HQ.out; omega
        go_wp2_with fail
        go_ret
        exact ⟨rfl, HBX.out.bel⟩
      | true =>
        have dq : decide (40 < (ss.length : Int)) = false := decide_eq_false (by have := of_decide_eq_true HQ.out; omega)
        have hv2 : vs.length = 2 := by
          have h := HT.out
          rw [er_mk, fits_5, Bool.and_eq_true] at h
          have := of_decide_eq_true h.2
          rwa [List.length_map] at this
        obtain ⟨y, z, rfl⟩ := two_of_len hv2
        obtain ⟨hl0, -, -, hall⟩ := HS.out.out
        obtain ⟨b, off, rfl, hb, hcl⟩ := (hl0.below HBX.out.bel).get (k := 0) (by simp)
        obtain ⟨g0, g1⟩ := hcl 0 a rfl
        obtain ⟨g2, g3⟩ := hcl 1 a' rfl
        obtain ⟨b2, off2, rfl, hb2, hy0, hy1, hy2, hy3, hy4⟩ := value_at (HP.out.vl.below HBX.out.bel) (k := 0) (x := y) rfl
        obtain ⟨b3, off3, he3, hb3, hz0, hz1, hz2, hz3, hz4⟩ := value_at (HP.out.vl.below HBX.out.bel) (k := 1) (x := z) rfl
        obtain ⟨rfl, rfl⟩ : b2 = b3 ∧ off2 = off3 := by cases he3; exact ⟨rfl, rfl⟩
        simp only [Nat.zero_mul, Nat.add_zero, Nat.one_mul] at g0 g1 g2 g3 hy0 hy1 hy2 hy3 hy4 hz0 hz1 hz2 hz3 hz4
        have l1 : b < w2.heap.size := Nat.lt_of_lt_of_le hb HBX.out.bel.size
        have l2 : b2 < w2.heap.size := Nat.lt_of_lt_of_le hb2 HBX.out.bel.size
        have HR2 : Hid (Row2 b off a b2 off2 y w2.drew) := Row2.later ⟨g0, g1, hy0, hy1, hy2, hy3, hy4, l1, l2, ((hall a (by simp)).keep HBX.out.bel).up HBX.out.bel.size, (HP.out.vk y (by simp)).later HBX.out.bel⟩ (drewB w2)
        have HR3 : Hid (Row2 b (off + 2) a' b2 (off2 + 5) z w2.drew) := Row2.later ⟨g2, g3, hz0, hz1, hz2, hz3, hz4, l1, l2, ((hall a' (by simp)).keep HBX.out.bel).up HBX.out.bel.size, (HP.out.vk z (by simp)).later HBX.out.bel⟩ (drewB w2)
        obtain ⟨u1, hu1⟩ : ∃ v, p y.er = v := ⟨_, rfl⟩
        obtain ⟨u2, hu2⟩ : ∃ v, p' z.er = v := ⟨_, rfl⟩
        have HFA : Hid (pairV p p' (Vl.mk n m sA sc ss cA cc cs (some ⟨b2, off2, none⟩) vc [y, z]).er.v = (u1 && u2)) := by
          show pairV _ _ _ = _
          rw [er_mk, ← hu1, ← hu2]
          rfl
        have HU1 := Lib.hid hu1
        have HU2 := Lib.hid hu2
        clear hl0 hall hcl g0 g1 g2 g3 he3 hy0 hy1 hy2 hy3 hy4 hz0 hz1 hz2 hz3 hz4 hu1 hu2 hv2 hvm HP HT l1 l2 HS
        obtain ⟨ak, aA, ac, al⟩ := a
        obtain ⟨dk, dA, dc, dl⟩ := a'
        obtain ⟨yn, ym, ysA, ysc, yss, ycA, ycc, ycs, yvA, yvc, yvs⟩ := y
        obtain ⟨zn, zm, zsA, zsc, zss, zcA, zcc, zcs, zvA, zvc, zvs⟩ := z
        simp only [S2.val_mk] at IH IH2
        cases u1 with
        | false =>
          go_wp2_with fail
          replace HBX := Lib.hid (HBX.out.later (drewB w2))
          refine wp_region_noPanic ?_
          refine wp_region_held_drew (S := (fun w' => w'.cell? ⟨w.heap.size, 1, none⟩ = some (.slice (some ⟨b, off, none⟩) 2 c) ∧ w'.cell? ⟨w.heap.size + 1, 4, none⟩ = some (.slice (some ⟨b2, off2, none⟩) 2 vc) ∧ w'.cell? ⟨b, off, none⟩ = some (.int .i64 ak) ∧ w'.cell? ⟨b, off + 1, none⟩ = some (.slice aA al.length ac) ∧ w'.cell? ⟨b2, off2, none⟩ = some (.int .u64 yn) ∧ w'.cell? ⟨b2, off2 + 1, none⟩ = some (.int .u64 ym) ∧ w'.cell? ⟨b2, off2 + 2, none⟩ = some (.slice ysA yss.length ysc) ∧ w'.cell? ⟨b2, off2 + 3, none⟩ = some (.slice ycA ycs.length ycc) ∧ w'.cell? ⟨b2, off2 + 4, none⟩ = some (.slice yvA yvs.length yvc) ∧ w'.cell? ⟨b, off + 2, none⟩ = some (.int .i64 dk) ∧ w'.cell? ⟨b, off + 2 + 1, none⟩ = some (.slice dA dl.length dc) ∧ w'.cell? ⟨b2, off2 + 5, none⟩ = some (.int .u64 zn) ∧ w'.cell? ⟨b2, off2 + 5 + 1, none⟩ = some (.int .u64 zm) ∧ w'.cell? ⟨b2, off2 + 5 + 2, none⟩ = some (.slice zsA zss.length zsc) ∧ w'.cell? ⟨b2, off2 + 5 + 3, none⟩ = some (.slice zcA zcs.length zcc) ∧ w'.cell? ⟨b2, off2 + 5 + 4, none⟩ = some (.slice zvA zvs.length zvc))) (by kernel_rfl) ?_ (fun hHeld => ?_)
          · exact ⟨HBX.out.i1, HBX.out.c4, HR2.out.s0, HR2.out.s1, HR2.out.y0, HR2.out.y1, HR2.out.y2, HR2.out.y3, HR2.out.y4, HR3.out.s0, HR3.out.s1, HR3.out.y0, HR3.out.y1, HR3.out.y2, HR3.out.y3, HR3.out.y4⟩
          refine takeH 0 58 (v := ?q4_v0) rfl rfl (by kernel_rfl) (by kernel_rfl) (by kernel_rfl) (fun _ _ _ h => h) (Or.inl ⟨by rfl, ?q4_h0⟩) (by assumption) ?q4_r0
          case q4_h0 => (intro w hSw; (try dsimp only at hSw); go_simp; try (with_reducible rfl))
          simp only [List.set_cons_zero, List.set_cons_succ]
          refine takeH 1 59 (v := ?q4_v1) rfl rfl (by kernel_rfl) (by kernel_rfl) (by kernel_rfl) (fun _ _ _ h => h) (Or.inl ⟨by rfl, ?q4_h1⟩) (by assumption) ?q4_r1
          case q4_h1 => (intro w hSw; (try dsimp only at hSw); go_simp; try (with_reducible rfl))
          simp only [List.set_cons_zero, List.set_cons_succ]
          refine takeH 2 60 (v := ?q4_v2) rfl rfl (by kernel_rfl) (by kernel_rfl) (by kernel_rfl) (fun _ _ _ h => h) (Or.inl ⟨by rfl, ?q4_h2⟩) (by assumption) ?q4_r2
          case q4_h2 => (intro w hSw; (try dsimp only at hSw); go_simp; try (with_reducible rfl))
          simp only [List.set_cons_zero, List.set_cons_succ]
          refine takeH 3 61 (v := ?q4_v3) rfl rfl (by kernel_rfl) (by kernel_rfl) (by kernel_rfl) (fun _ _ _ h => h) (Or.inl ⟨by rfl, ?q4_h3⟩) (by assumption) ?q4_r3
          case q4_h3 => (intro w hSw; (try dsimp only at hSw); go_simp; try (with_reducible rfl))
          simp only [List.set_cons_zero, List.set_cons_succ]
          refine takeH 4 62 (v := ?q4_v4) rfl rfl (by kernel_rfl) (by kernel_rfl) (by kernel_rfl) (fun _ _ _ h => h) (Or.inl ⟨by rfl, ?q4_h4⟩) (by assumption) ?q4_r4
          case q4_h4 => (intro w hSw; (try dsimp only at hSw); go_simp; try (with_reducible rfl))
          simp only [List.set_cons_zero, List.set_cons_succ]
          refine takeH 5 63 (v := ?q4_v5) rfl rfl (by kernel_rfl) (by kernel_rfl) (by kernel_rfl) (fun _ _ _ h => h) (Or.inl ⟨by rfl, ?q4_h5⟩) (by assumption) ?q4_r5
          case q4_h5 => (intro w hSw; (try dsimp only at hSw); go_simp; try (with_reducible rfl))
          simp only [List.set_cons_zero, List.set_cons_succ]
          refine takeH 6 64 (v := ?q4_v6) rfl rfl (by kernel_rfl) (by kernel_rfl) (by kernel_rfl) (fun _ _ _ h => h) (Or.inl ⟨by rfl, ?q4_h6⟩) (by assumption) ?q4_r6
          case q4_h6 => (intro w hSw; (try dsimp only at hSw); go_simp; try (with_reducible rfl))
          simp only [List.set_cons_zero, List.set_cons_succ]
          refine takeH 7 65 (v := ?q4_v7) rfl rfl (by kernel_rfl) (by kernel_rfl) (by kernel_rfl) (fun _ _ _ h => h) (Or.inl ⟨by rfl, ?q4_h7⟩) (by assumption) ?q4_r7
          case q4_h7 => (intro w hSw; (try dsimp only at hSw); go_simp; try (with_reducible rfl))
          simp only [List.set_cons_zero, List.set_cons_succ]
          refine wpAnyH_ready (rs := [8]) (by kernel_rfl) (by simp) ?_
          refine AllReadyH.cons rfl (fun K hK => ?_) AllReadyH.nil
          go_simp
          go_wp2_with (go_at_call 32; refine (IH.out (.mk yn ym ysA ysc yss ycA ycc ycs yvA yvc yvs) _ HR2.out.ia HR2.out.iy).mono ?_; rintro e w5 ⟨rfl, hb5⟩; (rw [HU1.out]; replace HBX := Lib.hid (HBX.out.later hb5); replace HR2 := Lib.hid (HR2.out.later hb5); replace HR3 := Lib.hid (HR3.out.later hb5); clear hb5))
          refine hK.out _ _ ?_ (fun hHeld => ?_)
          · exact ⟨HBX.out.i1, HBX.out.c4, HR2.out.s0, HR2.out.s1, HR2.out.y0, HR2.out.y1, HR2.out.y2, HR2.out.y3, HR2.out.y4, HR3.out.s0, HR3.out.s1, HR3.out.y0, HR3.out.y1, HR3.out.y2, HR3.out.y3, HR3.out.y4⟩
          clear hK K
          refine takeH 9 67 (v := ?q4_v9) rfl rfl (by kernel_rfl) (by kernel_rfl) (by kernel_rfl) (fun _ _ _ h => h) (Or.inl ⟨by rfl, ?q4_h9⟩) (by assumption) ?q4_r9
          case q4_h9 => (intro w hSw; (try dsimp only at hSw); go_simp; try (with_reducible rfl))
          simp only [List.set_cons_zero, List.set_cons_succ]
          refine takeH 10 68 (v := undef) rfl rfl (by kernel_rfl) (by kernel_rfl) (by kernel_rfl) (fun _ _ _ h => h) (Or.inr ⟨by rfl, rfl⟩) (by assumption) ?_
          simp only [List.set_cons_zero, List.set_cons_succ]
          refine takeH 11 69 (v := undef) rfl rfl (by kernel_rfl) (by kernel_rfl) (by kernel_rfl) (fun _ _ _ h => h) (Or.inr ⟨by rfl, rfl⟩) (by assumption) ?_
          simp only [List.set_cons_zero, List.set_cons_succ]
          refine takeH 12 70 (v := undef) rfl rfl (by kernel_rfl) (by kernel_rfl) (by kernel_rfl) (fun _ _ _ h => h) (Or.inr ⟨by rfl, rfl⟩) (by assumption) ?_
          simp only [List.set_cons_zero, List.set_cons_succ]
          refine takeH 13 71 (v := undef) rfl rfl (by kernel_rfl) (by kernel_rfl) (by kernel_rfl) (fun _ _ _ h => h) (Or.inr ⟨by rfl, rfl⟩) (by assumption) ?_
          simp only [List.set_cons_zero, List.set_cons_succ]
          refine takeH 14 72 (v := undef) rfl rfl (by kernel_rfl) (by kernel_rfl) (by kernel_rfl) (fun _ _ _ h => h) (Or.inr ⟨by rfl, rfl⟩) (by assumption) ?_
          simp only [List.set_cons_zero, List.set_cons_succ]
          refine takeH 15 73 (v := undef) rfl rfl (by kernel_rfl) (by kernel_rfl) (by kernel_rfl) (fun _ _ _ h => h) (Or.inr ⟨by rfl, rfl⟩) (by assumption) ?_
          simp only [List.set_cons_zero, List.set_cons_succ]
          refine takeH 16 74 (v := undef) rfl rfl (by kernel_rfl) (by kernel_rfl) (by kernel_rfl) (fun _ _ _ h => h) (Or.inr ⟨by rfl, rfl⟩) (by assumption) ?_
          simp only [List.set_cons_zero, List.set_cons_succ]
          refine takeH 17 75 (v := undef) rfl rfl (by kernel_rfl) (by kernel_rfl) (by kernel_rfl) (fun _ _ _ h => h) (Or.inr ⟨by rfl, rfl⟩) (by assumption) ?_
          simp only [List.set_cons_zero, List.set_cons_succ]
          refine takeH 18 76 (v := undef) rfl rfl (by kernel_rfl) (by kernel_rfl) (by kernel_rfl) (fun _ _ _ h => h) (Or.inr ⟨by rfl, rfl⟩) (by assumption) ?_
          simp only [List.set_cons_zero, List.set_cons_succ]
          refine takeH 19 77 (v := ?q4_v19) rfl rfl (by kernel_rfl) (by kernel_rfl) (by kernel_rfl) (fun _ _ _ h => h) (Or.inl ⟨by rfl, ?q4_h19⟩) (by assumption) ?q4_r19
          case q4_h19 => (intro w hSw; (try dsimp only at hSw); go_simp; try (with_reducible rfl))
          simp only [List.set_cons_zero, List.set_cons_succ]
          refine takeH 20 4 (v := ?q4_v20) rfl rfl (by kernel_rfl) (by kernel_rfl) (by kernel_rfl) (fun _ _ _ h => h) (Or.inl ⟨by rfl, ?q4_h20⟩) (by assumption) ?q4_r20
          case q4_h20 => (intro w hSw; (try dsimp only at hSw); go_simp; try (with_reducible rfl))
          simp only [List.set_cons_zero, List.set_cons_succ]
          refine wpAnyH_done (by kernel_rfl) ?_ _
          refine NoPanic.normal ?_
          go_wp2_with fail
          go_ret
          exact ⟨ret_bool (by rw [HFA.out]; rfl), HBX.out.bel⟩
        | true =>
          go_wp2_with fail
          replace HBX := Lib.hid (HBX.out.later (drewB w2))
          refine wp_region_noPanic ?_
          refine wp_region_held_drew (S := (fun w' => w'.cell? ⟨w.heap.size, 1, none⟩ = some (.slice (some ⟨b, off, none⟩) 2 c) ∧ w'.cell? ⟨w.heap.size + 1, 4, none⟩ = some (.slice (some ⟨b2, off2, none⟩) 2 vc) ∧ w'.cell? ⟨b, off, none⟩ = some (.int .i64 ak) ∧ w'.cell? ⟨b, off + 1, none⟩ = some (.slice aA al.length ac) ∧ w'.cell? ⟨b2, off2, none⟩ = some (.int .u64 yn) ∧ w'.cell? ⟨b2, off2 + 1, none⟩ = some (.int .u64 ym) ∧ w'.cell? ⟨b2, off2 + 2, none⟩ = some (.slice ysA yss.length ysc) ∧ w'.cell? ⟨b2, off2 + 3, none⟩ = some (.slice ycA ycs.length ycc) ∧ w'.cell? ⟨b2, off2 + 4, none⟩ = some (.slice yvA yvs.length yvc) ∧ w'.cell? ⟨b, off + 2, none⟩ = some (.int .i64 dk) ∧ w'.cell? ⟨b, off + 2 + 1, none⟩ = some (.slice dA dl.length dc) ∧ w'.cell? ⟨b2, off2 + 5, none⟩ = some (.int .u64 zn) ∧ w'.cell? ⟨b2, off2 + 5 + 1, none⟩ = some (.int .u64 zm) ∧ w'.cell? ⟨b2, off2 + 5 + 2, none⟩ = some (.slice zsA zss.length zsc) ∧ w'.cell? ⟨b2, off2 + 5 + 3, none⟩ = some (.slice zcA zcs.length zcc) ∧ w'.cell? ⟨b2, off2 + 5 + 4, none⟩ = some (.slice zvA zvs.length zvc))) (by kernel_rfl) ?_ (fun hHeld => ?_)
          · exact ⟨HBX.out.i1, HBX.out.c4, HR2.out.s0, HR2.out.s1, HR2.out.y0, HR2.out.y1, HR2.out.y2, HR2.out.y3, HR2.out.y4, HR3.out.s0, HR3.out.s1, HR3.out.y0, HR3.out.y1, HR3.out.y2, HR3.out.y3, HR3.out.y4⟩
          refine takeH 0 58 (v := ?q5_v0) rfl rfl (by kernel_rfl) (by kernel_rfl) (by kernel_rfl) (fun _ _ _ h => h) (Or.inl ⟨by rfl, ?q5_h0⟩) (by assumption) ?q5_r0
          case q5_h0 => (intro w hSw; (try dsimp only at hSw); go_simp; try (with_reducible rfl))
          simp only [List.set_cons_zero, List.set_cons_succ]
          refine takeH 1 59 (v := ?q5_v1) rfl rfl (by kernel_rfl) (by kernel_rfl) (by kernel_rfl) (fun _ _ _ h => h) (Or.inl ⟨by rfl, ?q5_h1⟩) (by assumption) ?q5_r1
          case q5_h1 => (intro w hSw; (try dsimp only at hSw); go_simp; try (with_reducible rfl))
          simp only [List.set_cons_zero, List.set_cons_succ]
          refine takeH 2 60 (v := ?q5_v2) rfl rfl (by kernel_rfl) (by kernel_rfl) (by kernel_rfl) (fun _ _ _ h => h) (Or.inl ⟨by rfl, ?q5_h2⟩) (by assumption) ?q5_r2
          case q5_h2 => (intro w hSw; (try dsimp only at hSw); go_simp; try (with_reducible rfl))
          simp only [List.set_cons_zero, List.set_cons_succ]
          refine takeH 3 61 (v := ?q5_v3) rfl rfl (by kernel_rfl) (by kernel_rfl) (by kernel_rfl) (fun _ _ _ h => h) (Or.inl ⟨by rfl, ?q5_h3⟩) (by assumption) ?q5_r3
          case q5_h3 => (intro w hSw; (try dsimp only at hSw); go_simp; try (with_reducible rfl))
          simp only [List.set_cons_zero, List.set_cons_succ]
          refine takeH 4 62 (v := ?q5_v4) rfl rfl (by kernel_rfl) (by kernel_rfl) (by kernel_rfl) (fun _ _ _ h => h) (Or.inl ⟨by rfl, ?q5_h4⟩) (by assumption) ?q5_r4
          case q5_h4 => (intro w hSw; (try dsimp only at hSw); go_simp; try (with_reducible rfl))
          simp only [List.set_cons_zero, List.set_cons_succ]
          refine takeH 5 63 (v := ?q5_v5) rfl rfl (by kernel_rfl) (by kernel_rfl) (by kernel_rfl) (fun _ _ _ h => h) (Or.inl ⟨by rfl, ?q5_h5⟩) (by assumption) ?q5_r5
          case q5_h5 => (intro w hSw; (try dsimp only at hSw); go_simp; try (with_reducible rfl))
          simp only [List.set_cons_zero, List.set_cons_succ]
          refine takeH 6 64 (v := ?q5_v6) rfl rfl (by kernel_rfl) (by kernel_rfl) (by kernel_rfl) (fun _ _ _ h => h) (Or.inl ⟨by rfl, ?q5_h6⟩) (by assumption) ?q5_r6
          case q5_h6 => (intro w hSw; (try dsimp only at hSw); go_simp; try (with_reducible rfl))
          simp only [List.set_cons_zero, List.set_cons_succ]
          refine takeH 7 65 (v := ?q5_v7) rfl rfl (by kernel_rfl) (by kernel_rfl) (by kernel_rfl) (fun _ _ _ h => h) (Or.inl ⟨by rfl, ?q5_h7⟩) (by assumption) ?q5_r7
          case q5_h7 => (intro w hSw; (try dsimp only at hSw); go_simp; try (with_reducible rfl))
          simp only [List.set_cons_zero, List.set_cons_succ]
          refine wpAnyH_ready (rs := [8]) (by kernel_rfl) (by simp) ?_
          refine AllReadyH.cons rfl (fun K hK => ?_) AllReadyH.nil
          go_simp
          go_wp2_with (go_at_call 32; refine (IH.out (.mk yn ym ysA ysc yss ycA ycc ycs yvA yvc yvs) _ HR2.out.ia HR2.out.iy).mono ?_; rintro e w5 ⟨rfl, hb5⟩; (rw [HU1.out]; replace HBX := Lib.hid (HBX.out.later hb5); replace HR2 := Lib.hid (HR2.out.later hb5); replace HR3 := Lib.hid (HR3.out.later hb5); clear hb5))
          refine hK.out _ _ ?_ (fun hHeld => ?_)
          · exact ⟨HBX.out.i1, HBX.out.c4, HR2.out.s0, HR2.out.s1, HR2.out.y0, HR2.out.y1, HR2.out.y2, HR2.out.y3, HR2.out.y4, HR3.out.s0, HR3.out.s1, HR3.out.y0, HR3.out.y1, HR3.out.y2, HR3.out.y3, HR3.out.y4⟩
          clear hK K
          refine takeH 9 67 (v := ?q5_v9) rfl rfl (by kernel_rfl) (by kernel_rfl) (by kernel_rfl) (fun _ _ _ h => h) (Or.inl ⟨by rfl, ?q5_h9⟩) (by assumption) ?q5_r9
          case q5_h9 => (intro w hSw; (try dsimp only at hSw); go_simp; try (with_reducible rfl))
          simp only [List.set_cons_zero, List.set_cons_succ]
          refine takeH 10 68 (v := ?q5_v10) rfl rfl (by kernel_rfl) (by kernel_rfl) (by kernel_rfl) (fun _ _ _ h => h) (Or.inl ⟨by rfl, ?q5_h10⟩) (by assumption) ?q5_r10
          case q5_h10 => (intro w hSw; (try dsimp only at hSw); go_simp; try (with_reducible rfl))
          simp only [List.set_cons_zero, List.set_cons_succ]
          refine takeH 11 69 (v := ?q5_v11) rfl rfl (by kernel_rfl) (by kernel_rfl) (by kernel_rfl) (fun _ _ _ h => h) (Or.inl ⟨by rfl, ?q5_h11⟩) (by assumption) ?q5_r11
          case q5_h11 => (intro w hSw; (try dsimp only at hSw); go_simp; try (with_reducible rfl))
          simp only [List.set_cons_zero, List.set_cons_succ]
          refine takeH 12 70 (v := ?q5_v12) rfl rfl (by kernel_rfl) (by kernel_rfl) (by kernel_rfl) (fun _ _ _ h => h) (Or.inl ⟨by rfl, ?q5_h12⟩) (by assumption) ?q5_r12
          case q5_h12 => (intro w hSw; (try dsimp only at hSw); go_simp; try (with_reducible rfl))
          simp only [List.set_cons_zero, List.set_cons_succ]
          refine takeH 13 71 (v := ?q5_v13) rfl rfl (by kernel_rfl) (by kernel_rfl) (by kernel_rfl) (fun _ _ _ h => h) (Or.inl ⟨by rfl, ?q5_h13⟩) (by assumption) ?q5_r13
          case q5_h13 => (intro w hSw; (try dsimp only at hSw); go_simp; try (with_reducible rfl))
          simp only [List.set_cons_zero, List.set_cons_succ]
          refine takeH 14 72 (v := ?q5_v14) rfl rfl (by kernel_rfl) (by kernel_rfl) (by kernel_rfl) (fun _ _ _ h => h) (Or.inl ⟨by rfl, ?q5_h14⟩) (by assumption) ?q5_r14
          case q5_h14 => (intro w hSw; (try dsimp only at hSw); go_simp; try (with_reducible rfl))
          simp only [List.set_cons_zero, List.set_cons_succ]
          refine takeH 15 73 (v := ?q5_v15) rfl rfl (by kernel_rfl) (by kernel_rfl) (by kernel_rfl) (fun _ _ _ h => h) (Or.inl ⟨by rfl, ?q5_h15⟩) (by assumption) ?q5_r15
          case q5_h15 => (intro w hSw; (try dsimp only at hSw); go_simp; try (with_reducible rfl))
          simp only [List.set_cons_zero, List.set_cons_succ]
          refine takeH 16 74 (v := ?q5_v16) rfl rfl (by kernel_rfl) (by kernel_rfl) (by kernel_rfl) (fun _ _ _ h => h) (Or.inl ⟨by rfl, ?q5_h16⟩) (by assumption) ?q5_r16
          case q5_h16 => (intro w hSw; (try dsimp only at hSw); go_simp; try (with_reducible rfl))
          simp only [List.set_cons_zero, List.set_cons_succ]
          refine takeH 17 75 (v := ?q5_v17) rfl rfl (by kernel_rfl) (by kernel_rfl) (by kernel_rfl) (fun _ _ _ h => h) (Or.inl ⟨by rfl, ?q5_h17⟩) (by assumption) ?q5_r17
          case q5_h17 => (intro w hSw; (try dsimp only at hSw); go_simp; try (with_reducible rfl))
          simp only [List.set_cons_zero, List.set_cons_succ]
          refine wpAnyH_ready (rs := [18]) (by kernel_rfl) (by simp) ?_
          refine AllReadyH.cons rfl (fun K hK => ?_) AllReadyH.nil
          go_simp
          go_wp2_with (go_at_call 32; refine (IH2.out (.mk zn zm zsA zsc zss zcA zcc zcs zvA zvc zvs) _ HR3.out.ia HR3.out.iy).mono ?_; rintro e w6 ⟨rfl, hb5⟩; (rw [HU2.out]; replace HBX := Lib.hid (HBX.out.later hb5); replace HR2 := Lib.hid (HR2.out.later hb5); replace HR3 := Lib.hid (HR3.out.later hb5); clear hb5))
          refine hK.out _ _ ?_ (fun hHeld => ?_)
          · exact ⟨HBX.out.i1, HBX.out.c4, HR2.out.s0, HR2.out.s1, HR2.out.y0, HR2.out.y1, HR2.out.y2, HR2.out.y3, HR2.out.y4, HR3.out.s0, HR3.out.s1, HR3.out.y0, HR3.out.y1, HR3.out.y2, HR3.out.y3, HR3.out.y4⟩
          clear hK K
          refine takeH 19 77 (v := ?q5_v19) rfl rfl (by kernel_rfl) (by kernel_rfl) (by kernel_rfl) (fun _ _ _ h => h) (Or.inl ⟨by rfl, ?q5_h19⟩) (by assumption) ?q5_r19
          case q5_h19 => (intro w hSw; (try dsimp only at hSw); go_simp; try (with_reducible rfl))
          simp only [List.set_cons_zero, List.set_cons_succ]
          refine takeH 20 4 (v := ?q5_v20) rfl rfl (by kernel_rfl) (by kernel_rfl) (by kernel_rfl) (fun _ _ _ h => h) (Or.inl ⟨by rfl, ?q5_h20⟩) (by assumption) ?q5_r20
          case q5_h20 => (intro w hSw; (try dsimp only at hSw); go_simp; try (with_reducible rfl))
          simp only [List.set_cons_zero, List.set_cons_succ]
          refine wpAnyH_done (by kernel_rfl) ?_ _
          refine NoPanic.normal ?_
          go_wp2_with fail
          go_ret
          exact ⟨ret_bool (by rw [HFA.out]; rfl), HBX.out.bel⟩

theorem isT_ins {n : Nat} {k : Int} {l : List Tr} (h : isT (n + 1) (.mk k l) = true) : ∀ t ∈ l, isT n t = true := by
  rw [isT, Bool.and_eq_true] at h
  exact fun t ht => List.all_eq_true.1 h.2 t ht

theorem refIsV_any : ∀ (s : Sc) (n : Nat), isT n s.er = true → ∀ (x : Vl) (w : World), s.In w.heap.size w → x.In w → Calls Tryz.prog 32 #[s.val, x.val] w (RetV w (.bool (isV s.er x.er))) := by
  intro s
  induction s using S2.Sc.ind with
  | h k A c l ih =>
    intro n hn x w hs hx
    have hlen := isT_len (n := n) (k := k) (l := l.map Sc.er) (by rw [← S2.er_mk k A c]; exact hn)
    rw [List.length_map] at hlen
    have hins : ∀ a ∈ l, ∃ m, isT m a.er = true := by
      intro a ha
      cases n with
      | zero => simp [isT] at hn
      | succ n =>
        rw [S2.er_mk] at hn
        exact ⟨n, isT_ins hn _ (List.mem_map.2 ⟨a, ha, rfl⟩)⟩
    rw [S2.er_mk]
    by_cases h0 : k = 1 ∨ k = 2 ∨ k = 3 ∨ k = 6 ∨ k = 7
    · have hl : l = [] := by
        apply List.eq_nil_of_length_eq_zero
        unfold S2.arI at hlen
        rw [if_pos h0] at hlen
        omega
      subst hl
      rw [List.map_nil, isV]
      rcases h0 with rfl | rfl | rfl | rfl | rfl
      · rw [if_neg (by decide)]; exact refIsV_1 A c x w hx
      · rw [if_neg (by decide)]; exact refIsV_2 A c x w hx
      · rw [if_neg (by decide)]; exact refIsV_3 A c x w hx
      · rw [if_neg (by decide)]; exact refIsV_6 A c x w hx
      · rw [if_pos rfl]; exact refIsV_7 A c x w hx
    · by_cases h1 : k = 4 ∨ k = 8
      · have hl : l.length = 1 := by
          unfold S2.arI at hlen
          rw [if_neg h0, if_pos h1] at hlen
          omega
        obtain ⟨a, rfl⟩ := List.length_eq_one_iff.1 hl
        obtain ⟨m, hm⟩ := hins a (by simp)
        have iha := ih a (by simp) m hm
        rw [List.map_cons, List.map_nil, isV]
        rcases h1 with rfl | rfl
        · rw [if_pos rfl]; exact refIsV_4 A c a x w hs hx (isV a.er) fun y w h1 h2 => iha y w h1 h2
        · rw [if_neg (by decide)]; exact refIsV_8 A c a x w hs hx (isV a.er) fun y w h1 h2 => iha y w h1 h2
      · by_cases h2 : k = 5
        · subst h2
          have hl : l.length = 2 := by
            unfold S2.arI at hlen
            rw [if_neg h0, if_neg h1, if_pos rfl] at hlen
            omega
          obtain ⟨a, a', rfl⟩ := two_of_len hl
          obtain ⟨m, hm⟩ := hins a (by simp)
          obtain ⟨m', hm'⟩ := hins a' (by simp)
          rw [List.map_cons, List.map_cons, List.map_nil, isV]
          exact refIsV_5 A c a a' x w hs hx (isV a.er) (isV a'.er) (fun y w h1 h2 => ih a (by simp) m hm y w h1 h2) (fun y w h1 h2 => ih a' (by simp) m' hm' y w h1 h2)
        · unfold S2.arI at hlen
          rw [if_neg h0, if_neg h1, if_neg h2] at hlen
          omega

set_option maxHeartbeats 1000000 in
theorem refIsW_any (s : Sc) (x : Vl) (w : World) (hs : s.In w.heap.size w) (hx : x.In w) : Calls Tryz.prog 21 #[s.val, x.val] w (RetV w (.bool (isT 16 s.er && isV s.er x.er))) := by
  obtain ⟨k, A, c, l⟩ := s
  obtain ⟨n, m, sA, sc, ss, cA, cc, cs, vA, vc, vs⟩ := x
  have HB0 : Hid (Below w.heap.size w ((w.alloc (.cells #[.int .i64 k, .slice A l.length c] 24)).alloc (.cells #[.int .u64 n, .int .u64 m, .slice sA ss.length sc, .slice cA cs.length cc, .slice vA vs.length vc] 32))) := belAl (allocB _ _)
  have HS := Lib.hid hs
  have HX := Lib.hid hx
  obtain ⟨t, ht⟩ : ∃ z, isT 16 (Sc.mk k A c l).er = z := ⟨_, rfl⟩
  have HT := Lib.hid ht
  rw [ht]
  clear hs hx ht
  simp only [S2.val_mk, val_mk]
  go_enter Tryz.func21, Tryz.ntmps21
  go_wp2_with fail
  refine (refIsS_at k A c l t _ (HS.out.later HB0.out) HT.out).mono ?_
  rintro e w1 ⟨rfl, hb1⟩
  have HBX : Hid (Boxes w k A l.length c n m sA ss.length sc cA cs.length cc vA vs.length vc w1) := Boxes.later ⟨by go_simp, by go_simp, by go_simp, by go_simp, by go_simp, by go_simp, by go_simp, by simp, HB0.out⟩ hb1
  clear hb1 HB0
  cases t with
  | false =>
    go_wp2_with fail
    go_ret
    exact ⟨rfl, HBX.out.bel⟩
  | true =>
    have HI := Lib.hid (refIsV_any (.mk k A c l) 16 HT.out (.mk n m sA sc ss cA cc cs vA vc vs) w1 ((HS.out.keep HBX.out.bel).up HBX.out.bel.size) (HX.out.later HBX.out.bel))
    simp only [S2.val_mk, val_mk] at HI
    have i0 := HBX.out.i0
    have i1 := HBX.out.i1
    have c0 := HBX.out.c0
    have c1 := HBX.out.c1
    have c2 := HBX.out.c2
    have c3 := HBX.out.c3
    have c4 := HBX.out.c4
    go_wp2_with fail
    refine HI.out.mono ?_
    rintro e w2 ⟨rfl, hb2⟩
    have hbw := (HBX.out.later hb2).bel
    clear hb2
    generalize isV (Sc.mk k A c l).er (Vl.mk n m sA sc ss cA cc cs vA vc vs).er = z at *
    go_wp2_with fail
    go_ret
    exact ⟨rfl, hbw⟩
end Go.Proofs.YtleejffjnknohaaGreat.V4
