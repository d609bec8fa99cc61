/- What ValueTells does: it answers true. No condition but that what is handed in lies in memory. A schema that came in, opened. No condition. Rows of whatever that came in, opened; schemas and values among them. No condition. -/
import Derived.Test.YtcpfjjimbnmaoaaMt18
import Derived.Test.YtcpfjjimbnmaoaaMt02
import Derived.Deep.SlicePairs
import Derived.ProofKit
import Derived.SizedLaws
import Derived.OpenShut
import Derived.ChangeOld
import Derived.Deep.Slices
namespace Go.Proofs.Ytcpfjjimbnmaoaa.V4
open Go.RowKit Go.Shelf
open C3 (Tk isC belAl drewB)
open S2 (Sc Tr isT allocB)

set_option maxRecDepth 100000 in
set_option maxHeartbeats 16000000 in
theorem valueTells_all (s : Sc) (a b : Vl) (w : World) (hs : s.In w.heap.size w) (ha : a.In w) (hb : b.In w) : Calls Try.prog 3 #[s.val, a.val, b.val] w (RetV w (.bool true)) := by
  obtain ⟨k0, A, c, l⟩ := s
  obtain ⟨an, am, asA, asc, ass, acA, acc, acs, avA, avc, avs⟩ := a
  obtain ⟨bn, bm, bsA, bsc, bss, bcA, bcc, bcs, bvA, bvc, bvs⟩ := b
  simp only [val_mk, S2.val_mk]
  obtain ⟨V, hV⟩ : ∃ V, (((w.alloc (.cells #[.int .i64 k0, .slice A l.length c] 24)).alloc (.cells #[.int .u64 an, .int .u64 am, .slice asA ass.length asc, .slice acA acs.length acc, .slice avA avs.length avc] 30)).alloc (.cells #[.int .u64 bn, .int .u64 bm, .slice bsA bss.length bsc, .slice bcA bcs.length bcc, .slice bvA bvs.length bvc] 30)) = V := ⟨_, rfl⟩
  have hbw : Below w.heap.size w V := by rw [← hV]; exact belAl (belAl (belAl (Below.refl _ _)))
  have X0 : Bxd V (w.heap.size) #[.int .i64 k0, .slice A l.length c] := by
    rw [← hV]
    have := Bxd.new (W := w) (cs := #[.int .i64 k0, .slice A l.length c]) (t := 24)
    exact (this.al _).al _
  have X1 : Bxd V (w.heap.size + 1) #[.int .u64 an, .int .u64 am, .slice asA ass.length asc, .slice acA acs.length acc, .slice avA avs.length avc] := by
    rw [← hV]
    have := Bxd.new (W := (w.alloc (.cells #[.int .i64 k0, .slice A l.length c] 24))) (cs := #[.int .u64 an, .int .u64 am, .slice asA ass.length asc, .slice acA acs.length acc, .slice avA avs.length avc]) (t := 30)
    rw [World.size_alloc] at this
    exact this.al _
  have X2 : Bxd V (w.heap.size + 1 + 1) #[.int .u64 bn, .int .u64 bm, .slice bsA bss.length bsc, .slice bcA bcs.length bcc, .slice bvA bvs.length bvc] := by
    rw [← hV]
    have := Bxd.new (W := ((w.alloc (.cells #[.int .i64 k0, .slice A l.length c] 24)).alloc (.cells #[.int .u64 an, .int .u64 am, .slice asA ass.length asc, .slice acA acs.length acc, .slice avA avs.length avc] 30))) (cs := #[.int .u64 bn, .int .u64 bm, .slice bsA bss.length bsc, .slice bcA bcs.length bcc, .slice bvA bvs.length bvc]) (t := 30)
    rw [World.size_alloc, World.size_alloc] at this
    exact this
  have HA0 := Lib.hid (And.intro X0 (hs.later hbw))
  have HB0 := Lib.hid (And.intro X1 (ha.later hbw))
  have HC0 := Lib.hid (And.intro X2 (hb.later hbw))
  have HW0 := Lib.hid hbw
  have HV := Lib.hid hV
  obtain ⟨q1, hq1⟩ : ∃ q, (isT 16 (Sc.mk k0 A c l).er && isV (Sc.mk k0 A c l).er (Vl.mk an am asA asc ass acA acc acs avA avc avs).er) = q := ⟨_, rfl⟩
  obtain ⟨q3, hq3⟩ : ∃ q, decide ((Vl.mk an am asA asc ass acA acc acs avA avc avs).er = botT (Sc.mk k0 A c l).er) = q := ⟨_, rfl⟩
  obtain ⟨q4, hq4⟩ : ∃ q, decide ((Vl.mk an am asA asc ass acA acc acs avA avc avs).er = (Vl.mk bn bm bsA bsc bss bcA bcc bcs bvA bvc bvs).er) = q := ⟨_, rfl⟩
  obtain ⟨q5, hq5⟩ : ∃ q, IntKind.i64.wrap ((Vl.mk an am asA asc ass acA acc acs avA avc avs).er.size : Nat) = q := ⟨_, rfl⟩
  have HQ1 := Lib.hid hq1
  have HQ3 := Lib.hid hq3
  have HQ4 := Lib.hid hq4
  have HQ5 := Lib.hid hq5
  clear hs ha hb hbw X0 X1 X2 hq1 hq3 hq4 hq5 hV
  go_enter Try.func3, Try.ntmps3
  go_wp2_with fail
  rw [HV.out]
  clear HV
  refine (known_any _).mono ?_
  rintro e w1 ⟨rfl, hb1⟩
  have HA := Lib.hid (And.intro ((HA0.out.1.later hb1).later (drewB _)) ((HA0.out.2.later hb1).later (drewB _)))
  have HB := Lib.hid (And.intro ((HB0.out.1.later hb1).later (drewB _)) ((HB0.out.2.later hb1).later (drewB _)))
  have HC := Lib.hid (And.intro ((HC0.out.1.later hb1).later (drewB _)) ((HC0.out.2.later hb1).later (drewB _)))
  have HW := Lib.hid (Below.drew (HW0.out.trans (hb1.mono HW0.out.size)))
  have a0 : World.cell? w1 ⟨w.heap.size, 0, none⟩ = some (.int .i64 k0) := (HA0.out.1.later hb1).2 0 _ rfl
  have a1 : World.cell? w1 ⟨w.heap.size, 1, none⟩ = some (.slice A l.length c) := (HA0.out.1.later hb1).2 1 _ rfl
  have b0 : World.cell? w1 ⟨w.heap.size + 1, 0, none⟩ = some (.int .u64 an) := (HB0.out.1.later hb1).2 0 _ rfl
  have b1 : World.cell? w1 ⟨w.heap.size + 1, 1, none⟩ = some (.int .u64 am) := (HB0.out.1.later hb1).2 1 _ rfl
  have b2 : World.cell? w1 ⟨w.heap.size + 1, 2, none⟩ = some (.slice asA ass.length asc) := (HB0.out.1.later hb1).2 2 _ rfl
  have b3 : World.cell? w1 ⟨w.heap.size + 1, 3, none⟩ = some (.slice acA acs.length acc) := (HB0.out.1.later hb1).2 3 _ rfl
  have b4 : World.cell? w1 ⟨w.heap.size + 1, 4, none⟩ = some (.slice avA avs.length avc) := (HB0.out.1.later hb1).2 4 _ rfl
  have c0 : World.cell? w1 ⟨w.heap.size + 1 + 1, 0, none⟩ = some (.int .u64 bn) := (HC0.out.1.later hb1).2 0 _ rfl
  have c1 : World.cell? w1 ⟨w.heap.size + 1 + 1, 1, none⟩ = some (.int .u64 bm) := (HC0.out.1.later hb1).2 1 _ rfl
  have c2 : World.cell? w1 ⟨w.heap.size + 1 + 1, 2, none⟩ = some (.slice bsA bss.length bsc) := (HC0.out.1.later hb1).2 2 _ rfl
  have c3 : World.cell? w1 ⟨w.heap.size + 1 + 1, 3, none⟩ = some (.slice bcA bcs.length bcc) := (HC0.out.1.later hb1).2 3 _ rfl
  have c4 : World.cell? w1 ⟨w.heap.size + 1 + 1, 4, none⟩ = some (.slice bvA bvs.length bvc) := (HC0.out.1.later hb1).2 4 _ rfl
  clear hb1 HA0 HB0 HC0 HW0
  go_wp2_with fail
  refine wp_region_noPanic ?_
  refine wp_region_held_drew (S := (fun w' => World.cell? w' ⟨w.heap.size, 0, none⟩ = some (.int .i64 k0) ∧ World.cell? w' ⟨w.heap.size, 1, none⟩ = some (.slice A l.length c) ∧ World.cell? w' ⟨w.heap.size + 1, 0, none⟩ = some (.int .u64 an) ∧ World.cell? w' ⟨w.heap.size + 1, 1, none⟩ = some (.int .u64 am) ∧ World.cell? w' ⟨w.heap.size + 1, 2, none⟩ = some (.slice asA ass.length asc) ∧ World.cell? w' ⟨w.heap.size + 1, 3, none⟩ = some (.slice acA acs.length acc) ∧ World.cell? w' ⟨w.heap.size + 1, 4, none⟩ = some (.slice avA avs.length avc) ∧ World.cell? w' ⟨w.heap.size + 1 + 1, 0, none⟩ = some (.int .u64 bn) ∧ World.cell? w' ⟨w.heap.size + 1 + 1, 1, none⟩ = some (.int .u64 bm) ∧ World.cell? w' ⟨w.heap.size + 1 + 1, 2, none⟩ = some (.slice bsA bss.length bsc) ∧ World.cell? w' ⟨w.heap.size + 1 + 1, 3, none⟩ = some (.slice bcA bcs.length bcc) ∧ World.cell? w' ⟨w.heap.size + 1 + 1, 4, none⟩ = some (.slice bvA bvs.length bvc))) (by kernel_rfl) ?_ (fun hHeld => ?_)
  · exact ⟨a0, a1, b0, b1, b2, b3, b4, c0, c1, c2, c3, c4⟩
  refine takeH 0 9 (v := ?q1_v0) rfl rfl (by kernel_rfl) (by kernel_rfl) (by kernel_rfl) (fun _ _ _ h => h) (Or.inl ⟨by rfl, ?q1_h0⟩) (by assumption) ?q1_r0
  case q1_h0 => (intro w hSw; (try dsimp only at hSw); go_simp; try (with_reducible rfl))
  simp only [List.set_cons_zero, List.set_cons_succ]
  refine takeH 1 10 (v := ?q1_v1) rfl rfl (by kernel_rfl) (by kernel_rfl) (by kernel_rfl) (fun _ _ _ h => h) (Or.inl ⟨by rfl, ?q1_h1⟩) (by assumption) ?q1_r1
  case q1_h1 => (intro w hSw; (try dsimp only at hSw); go_simp; try (with_reducible rfl))
  simp only [List.set_cons_zero, List.set_cons_succ]
  refine takeH 3 12 (v := ?q1_v3) rfl rfl (by kernel_rfl) (by kernel_rfl) (by kernel_rfl) (fun _ _ _ h => h) (Or.inl ⟨by rfl, ?q1_h3⟩) (by assumption) ?q1_r3
  case q1_h3 => (intro w hSw; (try dsimp only at hSw); go_simp; try (with_reducible rfl))
  simp only [List.set_cons_zero, List.set_cons_succ]
  refine takeH 4 13 (v := ?q1_v4) rfl rfl (by kernel_rfl) (by kernel_rfl) (by kernel_rfl) (fun _ _ _ h => h) (Or.inl ⟨by rfl, ?q1_h4⟩) (by assumption) ?q1_r4
  case q1_h4 => (intro w hSw; (try dsimp only at hSw); go_simp; try (with_reducible rfl))
  simp only [List.set_cons_zero, List.set_cons_succ]
  refine wpAnyH_ready (rs := [2]) (by kernel_rfl) (by simp) ?_
  refine AllReadyH.cons rfl (fun K hK => ?_) AllReadyH.nil
  go_simp
  go_wp2_with (go_at_call 9; refine (Is_any (Sc.mk k0 A c l) (Vl.mk an am asA asc ass acA acc acs avA avc avs) _ HA.out.2 HB.out.2).mono ?_; rintro e wj ⟨rfl, hbj⟩; (rw [HQ1.out]; replace a0 : World.cell? wj ⟨w.heap.size, 0, none⟩ = some (.int .i64 k0) := (HA.out.1.later hbj).2 0 _ rfl; replace a1 : World.cell? wj ⟨w.heap.size, 1, none⟩ = some (.slice A l.length c) := (HA.out.1.later hbj).2 1 _ rfl; replace b0 : World.cell? wj ⟨w.heap.size + 1, 0, none⟩ = some (.int .u64 an) := (HB.out.1.later hbj).2 0 _ rfl; replace b1 : World.cell? wj ⟨w.heap.size + 1, 1, none⟩ = some (.int .u64 am) := (HB.out.1.later hbj).2 1 _ rfl; replace b2 : World.cell? wj ⟨w.heap.size + 1, 2, none⟩ = some (.slice asA ass.length asc) := (HB.out.1.later hbj).2 2 _ rfl; replace b3 : World.cell? wj ⟨w.heap.size + 1, 3, none⟩ = some (.slice acA acs.length acc) := (HB.out.1.later hbj).2 3 _ rfl; replace b4 : World.cell? wj ⟨w.heap.size + 1, 4, none⟩ = some (.slice avA avs.length avc) := (HB.out.1.later hbj).2 4 _ rfl; replace c0 : World.cell? wj ⟨w.heap.size + 1 + 1, 0, none⟩ = some (.int .u64 bn) := (HC.out.1.later hbj).2 0 _ rfl; replace c1 : World.cell? wj ⟨w.heap.size + 1 + 1, 1, none⟩ = some (.int .u64 bm) := (HC.out.1.later hbj).2 1 _ rfl; replace c2 : World.cell? wj ⟨w.heap.size + 1 + 1, 2, none⟩ = some (.slice bsA bss.length bsc) := (HC.out.1.later hbj).2 2 _ rfl; replace c3 : World.cell? wj ⟨w.heap.size + 1 + 1, 3, none⟩ = some (.slice bcA bcs.length bcc) := (HC.out.1.later hbj).2 3 _ rfl; replace c4 : World.cell? wj ⟨w.heap.size + 1 + 1, 4, none⟩ = some (.slice bvA bvs.length bvc) := (HC.out.1.later hbj).2 4 _ rfl; replace HA := Lib.hid (And.intro (HA.out.1.later hbj) (HA.out.2.later hbj)); replace HB := Lib.hid (And.intro (HB.out.1.later hbj) (HB.out.2.later hbj)); replace HC := Lib.hid (And.intro (HC.out.1.later hbj) (HC.out.2.later hbj)); replace HW := Lib.hid (HW.out.trans (hbj.mono HW.out.size)); clear hbj))
  refine hK.out _ _ ?_ (fun hHeld => ?_)
  · exact ⟨a0, a1, b0, b1, b2, b3, b4, c0, c1, c2, c3, c4⟩
  clear hK K
  refine wpAnyH_ready (rs := [5]) (by kernel_rfl) (by simp) ?_
  refine AllReadyH.cons rfl (fun K hK => ?_) AllReadyH.nil
  go_simp
  go_wp2_with (go_at_call 10; refine (refIsW_any (Sc.mk k0 A c l) (Vl.mk an am asA asc ass acA acc acs avA avc avs) _ HA.out.2 HB.out.2).mono ?_; rintro e wj ⟨rfl, hbj⟩; (rw [HQ1.out]; replace a0 : World.cell? wj ⟨w.heap.size, 0, none⟩ = some (.int .i64 k0) := (HA.out.1.later hbj).2 0 _ rfl; replace a1 : World.cell? wj ⟨w.heap.size, 1, none⟩ = some (.slice A l.length c) := (HA.out.1.later hbj).2 1 _ rfl; replace b0 : World.cell? wj ⟨w.heap.size + 1, 0, none⟩ = some (.int .u64 an) := (HB.out.1.later hbj).2 0 _ rfl; replace b1 : World.cell? wj ⟨w.heap.size + 1, 1, none⟩ = some (.int .u64 am) := (HB.out.1.later hbj).2 1 _ rfl; replace b2 : World.cell? wj ⟨w.heap.size + 1, 2, none⟩ = some (.slice asA ass.length asc) := (HB.out.1.later hbj).2 2 _ rfl; replace b3 : World.cell? wj ⟨w.heap.size + 1, 3, none⟩ = some (.slice acA acs.length acc) := (HB.out.1.later hbj).2 3 _ rfl; replace b4 : World.cell? wj ⟨w.heap.size + 1, 4, none⟩ = some (.slice avA avs.length avc) := (HB.out.1.later hbj).2 4 _ rfl; replace c0 : World.cell? wj ⟨w.heap.size + 1 + 1, 0, none⟩ = some (.int .u64 bn) := (HC.out.1.later hbj).2 0 _ rfl; replace c1 : World.cell? wj ⟨w.heap.size + 1 + 1, 1, none⟩ = some (.int .u64 bm) := (HC.out.1.later hbj).2 1 _ rfl; replace c2 : World.cell? wj ⟨w.heap.size + 1 + 1, 2, none⟩ = some (.slice bsA bss.length bsc) := (HC.out.1.later hbj).2 2 _ rfl; replace c3 : World.cell? wj ⟨w.heap.size + 1 + 1, 3, none⟩ = some (.slice bcA bcs.length bcc) := (HC.out.1.later hbj).2 3 _ rfl; replace c4 : World.cell? wj ⟨w.heap.size + 1 + 1, 4, none⟩ = some (.slice bvA bvs.length bvc) := (HC.out.1.later hbj).2 4 _ rfl; replace HA := Lib.hid (And.intro (HA.out.1.later hbj) (HA.out.2.later hbj)); replace HB := Lib.hid (And.intro (HB.out.1.later hbj) (HB.out.2.later hbj)); replace HC := Lib.hid (And.intro (HC.out.1.later hbj) (HC.out.2.later hbj)); replace HW := Lib.hid (HW.out.trans (hbj.mono HW.out.size)); clear hbj))
  refine hK.out _ _ ?_ (fun hHeld => ?_)
  · exact ⟨a0, a1, b0, b1, b2, b3, b4, c0, c1, c2, c3, c4⟩
  clear hK K
  refine takeH 6 15 (v := ?q1_v6) rfl rfl (by kernel_rfl) (by kernel_rfl) (by kernel_rfl) (fun _ _ _ h => h) (Or.inl ⟨by rfl, ?q1_h6⟩) (by assumption) ?q1_r6
  case q1_h6 => (intro w hSw; (try dsimp only at hSw); go_simp; try (with_reducible rfl))
  simp only [List.set_cons_zero, List.set_cons_succ]
  refine takeH 7 16 (v := ?q1_v7) rfl rfl (by kernel_rfl) (by kernel_rfl) (by kernel_rfl) (fun _ _ _ h => h) (Or.inl ⟨by rfl, ?q1_h7⟩) (by assumption) ?q1_r7
  case q1_h7 => (intro w hSw; (try dsimp only at hSw); go_simp; try (with_reducible rfl))
  simp only [List.set_cons_zero, List.set_cons_succ]
  refine takeH 8 17 (v := ?q1_v8) rfl rfl (by kernel_rfl) (by kernel_rfl) (by kernel_rfl) (fun _ _ _ h => h) (Or.inl ⟨by rfl, ?q1_h8⟩) (by assumption) ?q1_r8
  case q1_h8 => (intro w hSw; (try dsimp only at hSw); go_simp; try (with_reducible rfl))
  simp only [List.set_cons_zero, List.set_cons_succ]
  refine takeH 10 19 (v := ?q1_v10) rfl rfl (by kernel_rfl) (by kernel_rfl) (by kernel_rfl) (fun _ _ _ h => h) (Or.inl ⟨by rfl, ?q1_h10⟩) (by assumption) ?q1_r10
  case q1_h10 => (intro w hSw; (try dsimp only at hSw); go_simp; try (with_reducible rfl))
  simp only [List.set_cons_zero, List.set_cons_succ]
  refine wpAnyH_ready (rs := [9]) (by kernel_rfl) (by simp) ?_
  refine AllReadyH.cons rfl (fun K hK => ?_) AllReadyH.nil
  go_simp
  go_wp2_with (go_at_call 12; refine (Bottom_any (Sc.mk k0 A c l) _ HA.out.2).mono ?_; rintro e wc ⟨⟨xn, xm, xsA, xsc, xss, xcA, xcc, xcs, xvA, xvc, xvs⟩, rfl, hce, hci, hbc⟩; (have HCE := Lib.hid hce; have HCI := Lib.hid (Vl.Inp.inn hci); replace a0 : World.cell? wc ⟨w.heap.size, 0, none⟩ = some (.int .i64 k0) := (HA.out.1.later hbc).2 0 _ rfl; replace a1 : World.cell? wc ⟨w.heap.size, 1, none⟩ = some (.slice A l.length c) := (HA.out.1.later hbc).2 1 _ rfl; replace b0 : World.cell? wc ⟨w.heap.size + 1, 0, none⟩ = some (.int .u64 an) := (HB.out.1.later hbc).2 0 _ rfl; replace b1 : World.cell? wc ⟨w.heap.size + 1, 1, none⟩ = some (.int .u64 am) := (HB.out.1.later hbc).2 1 _ rfl; replace b2 : World.cell? wc ⟨w.heap.size + 1, 2, none⟩ = some (.slice asA ass.length asc) := (HB.out.1.later hbc).2 2 _ rfl; replace b3 : World.cell? wc ⟨w.heap.size + 1, 3, none⟩ = some (.slice acA acs.length acc) := (HB.out.1.later hbc).2 3 _ rfl; replace b4 : World.cell? wc ⟨w.heap.size + 1, 4, none⟩ = some (.slice avA avs.length avc) := (HB.out.1.later hbc).2 4 _ rfl; replace c0 : World.cell? wc ⟨w.heap.size + 1 + 1, 0, none⟩ = some (.int .u64 bn) := (HC.out.1.later hbc).2 0 _ rfl; replace c1 : World.cell? wc ⟨w.heap.size + 1 + 1, 1, none⟩ = some (.int .u64 bm) := (HC.out.1.later hbc).2 1 _ rfl; replace c2 : World.cell? wc ⟨w.heap.size + 1 + 1, 2, none⟩ = some (.slice bsA bss.length bsc) := (HC.out.1.later hbc).2 2 _ rfl; replace c3 : World.cell? wc ⟨w.heap.size + 1 + 1, 3, none⟩ = some (.slice bcA bcs.length bcc) := (HC.out.1.later hbc).2 3 _ rfl; replace c4 : World.cell? wc ⟨w.heap.size + 1 + 1, 4, none⟩ = some (.slice bvA bvs.length bvc) := (HC.out.1.later hbc).2 4 _ rfl; replace HA := Lib.hid (And.intro (HA.out.1.later hbc) (HA.out.2.later hbc)); replace HB := Lib.hid (And.intro (HB.out.1.later hbc) (HB.out.2.later hbc)); replace HC := Lib.hid (And.intro (HC.out.1.later hbc) (HC.out.2.later hbc)); replace HW := Lib.hid (HW.out.trans (hbc.mono HW.out.size)); clear hbc hce hci; simp only [val_mk]))
  refine hK.out _ _ ?_ (fun hHeld => ?_)
  · exact ⟨a0, a1, b0, b1, b2, b3, b4, c0, c1, c2, c3, c4⟩
  clear hK K
  refine wpAnyH_ready (rs := [11]) (by kernel_rfl) (by simp) ?_
  refine AllReadyH.cons rfl (fun K hK => ?_) AllReadyH.nil
  go_simp
  go_wp2_with (go_at_call 13; refine (refBottom_any (Sc.mk k0 A c l) _ HA.out.2).mono ?_; rintro e wd ⟨⟨yn, ym, ysA, ysc, yss, ycA, ycc, ycs, yvA, yvc, yvs⟩, rfl, hde, hdi, hbd⟩; (have HDE := Lib.hid hde; have HDI := Lib.hid (Vl.Inp.inn hdi); replace HCI := Lib.hid (HCI.out.later hbd); replace a0 : World.cell? wd ⟨w.heap.size, 0, none⟩ = some (.int .i64 k0) := (HA.out.1.later hbd).2 0 _ rfl; replace a1 : World.cell? wd ⟨w.heap.size, 1, none⟩ = some (.slice A l.length c) := (HA.out.1.later hbd).2 1 _ rfl; replace b0 : World.cell? wd ⟨w.heap.size + 1, 0, none⟩ = some (.int .u64 an) := (HB.out.1.later hbd).2 0 _ rfl; replace b1 : World.cell? wd ⟨w.heap.size + 1, 1, none⟩ = some (.int .u64 am) := (HB.out.1.later hbd).2 1 _ rfl; replace b2 : World.cell? wd ⟨w.heap.size + 1, 2, none⟩ = some (.slice asA ass.length asc) := (HB.out.1.later hbd).2 2 _ rfl; replace b3 : World.cell? wd ⟨w.heap.size + 1, 3, none⟩ = some (.slice acA acs.length acc) := (HB.out.1.later hbd).2 3 _ rfl; replace b4 : World.cell? wd ⟨w.heap.size + 1, 4, none⟩ = some (.slice avA avs.length avc) := (HB.out.1.later hbd).2 4 _ rfl; replace c0 : World.cell? wd ⟨w.heap.size + 1 + 1, 0, none⟩ = some (.int .u64 bn) := (HC.out.1.later hbd).2 0 _ rfl; replace c1 : World.cell? wd ⟨w.heap.size + 1 + 1, 1, none⟩ = some (.int .u64 bm) := (HC.out.1.later hbd).2 1 _ rfl; replace c2 : World.cell? wd ⟨w.heap.size + 1 + 1, 2, none⟩ = some (.slice bsA bss.length bsc) := (HC.out.1.later hbd).2 2 _ rfl; replace c3 : World.cell? wd ⟨w.heap.size + 1 + 1, 3, none⟩ = some (.slice bcA bcs.length bcc) := (HC.out.1.later hbd).2 3 _ rfl; replace c4 : World.cell? wd ⟨w.heap.size + 1 + 1, 4, none⟩ = some (.slice bvA bvs.length bvc) := (HC.out.1.later hbd).2 4 _ rfl; replace HA := Lib.hid (And.intro (HA.out.1.later hbd) (HA.out.2.later hbd)); replace HB := Lib.hid (And.intro (HB.out.1.later hbd) (HB.out.2.later hbd)); replace HC := Lib.hid (And.intro (HC.out.1.later hbd) (HC.out.2.later hbd)); replace HW := Lib.hid (HW.out.trans (hbd.mono HW.out.size)); clear hbd hde hdi; simp only [val_mk]))
  refine hK.out _ _ ?_ (fun hHeld => ?_)
  · exact ⟨a0, a1, b0, b1, b2, b3, b4, c0, c1, c2, c3, c4⟩
  clear hK K
  refine wpAnyH_ready (rs := [12]) (by kernel_rfl) (by simp) ?_
  refine AllReadyH.cons rfl (fun K hK => ?_) AllReadyH.nil
  go_simp
  go_wp2_with (go_at_call 11; refine (refSameV_any (Vl.mk xn xm xsA xsc xss xcA xcc xcs xvA xvc xvs) (Vl.mk yn ym ysA ysc yss ycA ycc ycs yvA yvc yvs) _ HCI.out HDI.out).mono ?_; rintro e wj ⟨rfl, hbj⟩; (rw [HCE.out, HDE.out, decide_eq_true rfl]; replace a0 : World.cell? wj ⟨w.heap.size, 0, none⟩ = some (.int .i64 k0) := (HA.out.1.later hbj).2 0 _ rfl; replace a1 : World.cell? wj ⟨w.heap.size, 1, none⟩ = some (.slice A l.length c) := (HA.out.1.later hbj).2 1 _ rfl; replace b0 : World.cell? wj ⟨w.heap.size + 1, 0, none⟩ = some (.int .u64 an) := (HB.out.1.later hbj).2 0 _ rfl; replace b1 : World.cell? wj ⟨w.heap.size + 1, 1, none⟩ = some (.int .u64 am) := (HB.out.1.later hbj).2 1 _ rfl; replace b2 : World.cell? wj ⟨w.heap.size + 1, 2, none⟩ = some (.slice asA ass.length asc) := (HB.out.1.later hbj).2 2 _ rfl; replace b3 : World.cell? wj ⟨w.heap.size + 1, 3, none⟩ = some (.slice acA acs.length acc) := (HB.out.1.later hbj).2 3 _ rfl; replace b4 : World.cell? wj ⟨w.heap.size + 1, 4, none⟩ = some (.slice avA avs.length avc) := (HB.out.1.later hbj).2 4 _ rfl; replace c0 : World.cell? wj ⟨w.heap.size + 1 + 1, 0, none⟩ = some (.int .u64 bn) := (HC.out.1.later hbj).2 0 _ rfl; replace c1 : World.cell? wj ⟨w.heap.size + 1 + 1, 1, none⟩ = some (.int .u64 bm) := (HC.out.1.later hbj).2 1 _ rfl; replace c2 : World.cell? wj ⟨w.heap.size + 1 + 1, 2, none⟩ = some (.slice bsA bss.length bsc) := (HC.out.1.later hbj).2 2 _ rfl; replace c3 : World.cell? wj ⟨w.heap.size + 1 + 1, 3, none⟩ = some (.slice bcA bcs.length bcc) := (HC.out.1.later hbj).2 3 _ rfl; replace c4 : World.cell? wj ⟨w.heap.size + 1 + 1, 4, none⟩ = some (.slice bvA bvs.length bvc) := (HC.out.1.later hbj).2 4 _ rfl; replace HA := Lib.hid (And.intro (HA.out.1.later hbj) (HA.out.2.later hbj)); replace HB := Lib.hid (And.intro (HB.out.1.later hbj) (HB.out.2.later hbj)); replace HC := Lib.hid (And.intro (HC.out.1.later hbj) (HC.out.2.later hbj)); replace HW := Lib.hid (HW.out.trans (hbj.mono HW.out.size)); clear hbj))
  refine hK.out _ _ ?_ (fun hHeld => ?_)
  · exact ⟨a0, a1, b0, b1, b2, b3, b4, c0, c1, c2, c3, c4⟩
  clear hK K
  refine takeH 13 22 (v := ?q1_v13) rfl rfl (by kernel_rfl) (by kernel_rfl) (by kernel_rfl) (fun _ _ _ h => h) (Or.inl ⟨by rfl, ?q1_h13⟩) (by assumption) ?q1_r13
  case q1_h13 => (intro w hSw; (try dsimp only at hSw); go_simp; try (with_reducible rfl))
  simp only [List.set_cons_zero, List.set_cons_succ]
  refine takeH 14 23 (v := ?q1_v14) rfl rfl (by kernel_rfl) (by kernel_rfl) (by kernel_rfl) (fun _ _ _ h => h) (Or.inl ⟨by rfl, ?q1_h14⟩) (by assumption) ?q1_r14
  case q1_h14 => (intro w hSw; (try dsimp only at hSw); go_simp; try (with_reducible rfl))
  simp only [List.set_cons_zero, List.set_cons_succ]
  refine takeH 15 24 (v := ?q1_v15) rfl rfl (by kernel_rfl) (by kernel_rfl) (by kernel_rfl) (fun _ _ _ h => h) (Or.inl ⟨by rfl, ?q1_h15⟩) (by assumption) ?q1_r15
  case q1_h15 => (intro w hSw; (try dsimp only at hSw); go_simp; try (with_reducible rfl))
  simp only [List.set_cons_zero, List.set_cons_succ]
  refine takeH 16 25 (v := ?q1_v16) rfl rfl (by kernel_rfl) (by kernel_rfl) (by kernel_rfl) (fun _ _ _ h => h) (Or.inl ⟨by rfl, ?q1_h16⟩) (by assumption) ?q1_r16
  case q1_h16 => (intro w hSw; (try dsimp only at hSw); go_simp; try (with_reducible rfl))
  simp only [List.set_cons_zero, List.set_cons_succ]
  refine takeH 18 27 (v := ?q1_v18) rfl rfl (by kernel_rfl) (by kernel_rfl) (by kernel_rfl) (fun _ _ _ h => h) (Or.inl ⟨by rfl, ?q1_h18⟩) (by assumption) ?q1_r18
  case q1_h18 => (intro w hSw; (try dsimp only at hSw); go_simp; try (with_reducible rfl))
  simp only [List.set_cons_zero, List.set_cons_succ]
  refine takeH 19 28 (v := ?q1_v19) rfl rfl (by kernel_rfl) (by kernel_rfl) (by kernel_rfl) (fun _ _ _ h => h) (Or.inl ⟨by rfl, ?q1_h19⟩) (by assumption) ?q1_r19
  case q1_h19 => (intro w hSw; (try dsimp only at hSw); go_simp; try (with_reducible rfl))
  simp only [List.set_cons_zero, List.set_cons_succ]
  refine wpAnyH_ready (rs := [17]) (by kernel_rfl) (by simp) ?_
  refine AllReadyH.cons rfl (fun K hK => ?_) AllReadyH.nil
  go_simp
  go_wp2_with (go_at_call 14; refine (None_any (Sc.mk k0 A c l) (Vl.mk an am asA asc ass acA acc acs avA avc avs) _ HA.out.2 HB.out.2).mono ?_; rintro e wj ⟨rfl, hbj⟩; (rw [HQ3.out]; replace a0 : World.cell? wj ⟨w.heap.size, 0, none⟩ = some (.int .i64 k0) := (HA.out.1.later hbj).2 0 _ rfl; replace a1 : World.cell? wj ⟨w.heap.size, 1, none⟩ = some (.slice A l.length c) := (HA.out.1.later hbj).2 1 _ rfl; replace b0 : World.cell? wj ⟨w.heap.size + 1, 0, none⟩ = some (.int .u64 an) := (HB.out.1.later hbj).2 0 _ rfl; replace b1 : World.cell? wj ⟨w.heap.size + 1, 1, none⟩ = some (.int .u64 am) := (HB.out.1.later hbj).2 1 _ rfl; replace b2 : World.cell? wj ⟨w.heap.size + 1, 2, none⟩ = some (.slice asA ass.length asc) := (HB.out.1.later hbj).2 2 _ rfl; replace b3 : World.cell? wj ⟨w.heap.size + 1, 3, none⟩ = some (.slice acA acs.length acc) := (HB.out.1.later hbj).2 3 _ rfl; replace b4 : World.cell? wj ⟨w.heap.size + 1, 4, none⟩ = some (.slice avA avs.length avc) := (HB.out.1.later hbj).2 4 _ rfl; replace c0 : World.cell? wj ⟨w.heap.size + 1 + 1, 0, none⟩ = some (.int .u64 bn) := (HC.out.1.later hbj).2 0 _ rfl; replace c1 : World.cell? wj ⟨w.heap.size + 1 + 1, 1, none⟩ = some (.int .u64 bm) := (HC.out.1.later hbj).2 1 _ rfl; replace c2 : World.cell? wj ⟨w.heap.size + 1 + 1, 2, none⟩ = some (.slice bsA bss.length bsc) := (HC.out.1.later hbj).2 2 _ rfl; replace c3 : World.cell? wj ⟨w.heap.size + 1 + 1, 3, none⟩ = some (.slice bcA bcs.length bcc) := (HC.out.1.later hbj).2 3 _ rfl; replace c4 : World.cell? wj ⟨w.heap.size + 1 + 1, 4, none⟩ = some (.slice bvA bvs.length bvc) := (HC.out.1.later hbj).2 4 _ rfl; replace HA := Lib.hid (And.intro (HA.out.1.later hbj) (HA.out.2.later hbj)); replace HB := Lib.hid (And.intro (HB.out.1.later hbj) (HB.out.2.later hbj)); replace HC := Lib.hid (And.intro (HC.out.1.later hbj) (HC.out.2.later hbj)); replace HW := Lib.hid (HW.out.trans (hbj.mono HW.out.size)); clear hbj))
  refine hK.out _ _ ?_ (fun hHeld => ?_)
  · exact ⟨a0, a1, b0, b1, b2, b3, b4, c0, c1, c2, c3, c4⟩
  clear hK K
  refine wpAnyH_ready (rs := [20]) (by kernel_rfl) (by simp) ?_
  refine AllReadyH.cons rfl (fun K hK => ?_) AllReadyH.nil
  go_simp
  go_wp2_with (go_at_call 15; refine (refNone_any (Sc.mk k0 A c l) (Vl.mk an am asA asc ass acA acc acs avA avc avs) _ HA.out.2 HB.out.2).mono ?_; rintro e wj ⟨rfl, hbj⟩; (rw [HQ3.out]; replace a0 : World.cell? wj ⟨w.heap.size, 0, none⟩ = some (.int .i64 k0) := (HA.out.1.later hbj).2 0 _ rfl; replace a1 : World.cell? wj ⟨w.heap.size, 1, none⟩ = some (.slice A l.length c) := (HA.out.1.later hbj).2 1 _ rfl; replace b0 : World.cell? wj ⟨w.heap.size + 1, 0, none⟩ = some (.int .u64 an) := (HB.out.1.later hbj).2 0 _ rfl; replace b1 : World.cell? wj ⟨w.heap.size + 1, 1, none⟩ = some (.int .u64 am) := (HB.out.1.later hbj).2 1 _ rfl; replace b2 : World.cell? wj ⟨w.heap.size + 1, 2, none⟩ = some (.slice asA ass.length asc) := (HB.out.1.later hbj).2 2 _ rfl; replace b3 : World.cell? wj ⟨w.heap.size + 1, 3, none⟩ = some (.slice acA acs.length acc) := (HB.out.1.later hbj).2 3 _ rfl; replace b4 : World.cell? wj ⟨w.heap.size + 1, 4, none⟩ = some (.slice avA avs.length avc) := (HB.out.1.later hbj).2 4 _ rfl; replace c0 : World.cell? wj ⟨w.heap.size + 1 + 1, 0, none⟩ = some (.int .u64 bn) := (HC.out.1.later hbj).2 0 _ rfl; replace c1 : World.cell? wj ⟨w.heap.size + 1 + 1, 1, none⟩ = some (.int .u64 bm) := (HC.out.1.later hbj).2 1 _ rfl; replace c2 : World.cell? wj ⟨w.heap.size + 1 + 1, 2, none⟩ = some (.slice bsA bss.length bsc) := (HC.out.1.later hbj).2 2 _ rfl; replace c3 : World.cell? wj ⟨w.heap.size + 1 + 1, 3, none⟩ = some (.slice bcA bcs.length bcc) := (HC.out.1.later hbj).2 3 _ rfl; replace c4 : World.cell? wj ⟨w.heap.size + 1 + 1, 4, none⟩ = some (.slice bvA bvs.length bvc) := (HC.out.1.later hbj).2 4 _ rfl; replace HA := Lib.hid (And.intro (HA.out.1.later hbj) (HA.out.2.later hbj)); replace HB := Lib.hid (And.intro (HB.out.1.later hbj) (HB.out.2.later hbj)); replace HC := Lib.hid (And.intro (HC.out.1.later hbj) (HC.out.2.later hbj)); replace HW := Lib.hid (HW.out.trans (hbj.mono HW.out.size)); clear hbj))
  refine hK.out _ _ ?_ (fun hHeld => ?_)
  · exact ⟨a0, a1, b0, b1, b2, b3, b4, c0, c1, c2, c3, c4⟩
  clear hK K
  refine takeH 21 30 (v := ?q1_v21) rfl rfl (by kernel_rfl) (by kernel_rfl) (by kernel_rfl) (fun _ _ _ h => h) (Or.inl ⟨by rfl, ?q1_h21⟩) (by assumption) ?q1_r21
  case q1_h21 => (intro w hSw; (try dsimp only at hSw); go_simp; try (with_reducible rfl))
  simp only [List.set_cons_zero, List.set_cons_succ]
  refine takeH 22 31 (v := ?q1_v22) rfl rfl (by kernel_rfl) (by kernel_rfl) (by kernel_rfl) (fun _ _ _ h => h) (Or.inl ⟨by rfl, ?q1_h22⟩) (by assumption) ?q1_r22
  case q1_h22 => (intro w hSw; (try dsimp only at hSw); go_simp; try (with_reducible rfl))
  simp only [List.set_cons_zero, List.set_cons_succ]
  refine takeH 23 32 (v := ?q1_v23) rfl rfl (by kernel_rfl) (by kernel_rfl) (by kernel_rfl) (fun _ _ _ h => h) (Or.inl ⟨by rfl, ?q1_h23⟩) (by assumption) ?q1_r23
  case q1_h23 => (intro w hSw; (try dsimp only at hSw); go_simp; try (with_reducible rfl))
  simp only [List.set_cons_zero, List.set_cons_succ]
  refine takeH 24 33 (v := ?q1_v24) rfl rfl (by kernel_rfl) (by kernel_rfl) (by kernel_rfl) (fun _ _ _ h => h) (Or.inl ⟨by rfl, ?q1_h24⟩) (by assumption) ?q1_r24
  case q1_h24 => (intro w hSw; (try dsimp only at hSw); go_simp; try (with_reducible rfl))
  simp only [List.set_cons_zero, List.set_cons_succ]
  refine takeH 25 34 (v := ?q1_v25) rfl rfl (by kernel_rfl) (by kernel_rfl) (by kernel_rfl) (fun _ _ _ h => h) (Or.inl ⟨by rfl, ?q1_h25⟩) (by assumption) ?q1_r25
  case q1_h25 => (intro w hSw; (try dsimp only at hSw); go_simp; try (with_reducible rfl))
  simp only [List.set_cons_zero, List.set_cons_succ]
  refine takeH 27 36 (v := ?q1_v27) rfl rfl (by kernel_rfl) (by kernel_rfl) (by kernel_rfl) (fun _ _ _ h => h) (Or.inl ⟨by rfl, ?q1_h27⟩) (by assumption) ?q1_r27
  case q1_h27 => (intro w hSw; (try dsimp only at hSw); go_simp; try (with_reducible rfl))
  simp only [List.set_cons_zero, List.set_cons_succ]
  refine takeH 28 37 (v := ?q1_v28) rfl rfl (by kernel_rfl) (by kernel_rfl) (by kernel_rfl) (fun _ _ _ h => h) (Or.inl ⟨by rfl, ?q1_h28⟩) (by assumption) ?q1_r28
  case q1_h28 => (intro w hSw; (try dsimp only at hSw); go_simp; try (with_reducible rfl))
  simp only [List.set_cons_zero, List.set_cons_succ]
  refine wpAnyH_ready (rs := [26]) (by kernel_rfl) (by simp) ?_
  refine AllReadyH.cons rfl (fun K hK => ?_) AllReadyH.nil
  go_simp
  go_wp2_with (go_at_call 16; refine (Same_any (Vl.mk an am asA asc ass acA acc acs avA avc avs) (Vl.mk bn bm bsA bsc bss bcA bcc bcs bvA bvc bvs) _ HB.out.2 HC.out.2).mono ?_; rintro e wj ⟨rfl, hbj⟩; (rw [HQ4.out]; replace a0 : World.cell? wj ⟨w.heap.size, 0, none⟩ = some (.int .i64 k0) := (HA.out.1.later hbj).2 0 _ rfl; replace a1 : World.cell? wj ⟨w.heap.size, 1, none⟩ = some (.slice A l.length c) := (HA.out.1.later hbj).2 1 _ rfl; replace b0 : World.cell? wj ⟨w.heap.size + 1, 0, none⟩ = some (.int .u64 an) := (HB.out.1.later hbj).2 0 _ rfl; replace b1 : World.cell? wj ⟨w.heap.size + 1, 1, none⟩ = some (.int .u64 am) := (HB.out.1.later hbj).2 1 _ rfl; replace b2 : World.cell? wj ⟨w.heap.size + 1, 2, none⟩ = some (.slice asA ass.length asc) := (HB.out.1.later hbj).2 2 _ rfl; replace b3 : World.cell? wj ⟨w.heap.size + 1, 3, none⟩ = some (.slice acA acs.length acc) := (HB.out.1.later hbj).2 3 _ rfl; replace b4 : World.cell? wj ⟨w.heap.size + 1, 4, none⟩ = some (.slice avA avs.length avc) := (HB.out.1.later hbj).2 4 _ rfl; replace c0 : World.cell? wj ⟨w.heap.size + 1 + 1, 0, none⟩ = some (.int .u64 bn) := (HC.out.1.later hbj).2 0 _ rfl; replace c1 : World.cell? wj ⟨w.heap.size + 1 + 1, 1, none⟩ = some (.int .u64 bm) := (HC.out.1.later hbj).2 1 _ rfl; replace c2 : World.cell? wj ⟨w.heap.size + 1 + 1, 2, none⟩ = some (.slice bsA bss.length bsc) := (HC.out.1.later hbj).2 2 _ rfl; replace c3 : World.cell? wj ⟨w.heap.size + 1 + 1, 3, none⟩ = some (.slice bcA bcs.length bcc) := (HC.out.1.later hbj).2 3 _ rfl; replace c4 : World.cell? wj ⟨w.heap.size + 1 + 1, 4, none⟩ = some (.slice bvA bvs.length bvc) := (HC.out.1.later hbj).2 4 _ rfl; replace HA := Lib.hid (And.intro (HA.out.1.later hbj) (HA.out.2.later hbj)); replace HB := Lib.hid (And.intro (HB.out.1.later hbj) (HB.out.2.later hbj)); replace HC := Lib.hid (And.intro (HC.out.1.later hbj) (HC.out.2.later hbj)); replace HW := Lib.hid (HW.out.trans (hbj.mono HW.out.size)); clear hbj))
  refine hK.out _ _ ?_ (fun hHeld => ?_)
  · exact ⟨a0, a1, b0, b1, b2, b3, b4, c0, c1, c2, c3, c4⟩
  clear hK K
  refine wpAnyH_ready (rs := [29]) (by kernel_rfl) (by simp) ?_
  refine AllReadyH.cons rfl (fun K hK => ?_) AllReadyH.nil
  go_simp
  go_wp2_with (go_at_call 11; refine (refSameV_any (Vl.mk an am asA asc ass acA acc acs avA avc avs) (Vl.mk bn bm bsA bsc bss bcA bcc bcs bvA bvc bvs) _ HB.out.2 HC.out.2).mono ?_; rintro e wj ⟨rfl, hbj⟩; (rw [HQ4.out]; replace a0 : World.cell? wj ⟨w.heap.size, 0, none⟩ = some (.int .i64 k0) := (HA.out.1.later hbj).2 0 _ rfl; replace a1 : World.cell? wj ⟨w.heap.size, 1, none⟩ = some (.slice A l.length c) := (HA.out.1.later hbj).2 1 _ rfl; replace b0 : World.cell? wj ⟨w.heap.size + 1, 0, none⟩ = some (.int .u64 an) := (HB.out.1.later hbj).2 0 _ rfl; replace b1 : World.cell? wj ⟨w.heap.size + 1, 1, none⟩ = some (.int .u64 am) := (HB.out.1.later hbj).2 1 _ rfl; replace b2 : World.cell? wj ⟨w.heap.size + 1, 2, none⟩ = some (.slice asA ass.length asc) := (HB.out.1.later hbj).2 2 _ rfl; replace b3 : World.cell? wj ⟨w.heap.size + 1, 3, none⟩ = some (.slice acA acs.length acc) := (HB.out.1.later hbj).2 3 _ rfl; replace b4 : World.cell? wj ⟨w.heap.size + 1, 4, none⟩ = some (.slice avA avs.length avc) := (HB.out.1.later hbj).2 4 _ rfl; replace c0 : World.cell? wj ⟨w.heap.size + 1 + 1, 0, none⟩ = some (.int .u64 bn) := (HC.out.1.later hbj).2 0 _ rfl; replace c1 : World.cell? wj ⟨w.heap.size + 1 + 1, 1, none⟩ = some (.int .u64 bm) := (HC.out.1.later hbj).2 1 _ rfl; replace c2 : World.cell? wj ⟨w.heap.size + 1 + 1, 2, none⟩ = some (.slice bsA bss.length bsc) := (HC.out.1.later hbj).2 2 _ rfl; replace c3 : World.cell? wj ⟨w.heap.size + 1 + 1, 3, none⟩ = some (.slice bcA bcs.length bcc) := (HC.out.1.later hbj).2 3 _ rfl; replace c4 : World.cell? wj ⟨w.heap.size + 1 + 1, 4, none⟩ = some (.slice bvA bvs.length bvc) := (HC.out.1.later hbj).2 4 _ rfl; replace HA := Lib.hid (And.intro (HA.out.1.later hbj) (HA.out.2.later hbj)); replace HB := Lib.hid (And.intro (HB.out.1.later hbj) (HB.out.2.later hbj)); replace HC := Lib.hid (And.intro (HC.out.1.later hbj) (HC.out.2.later hbj)); replace HW := Lib.hid (HW.out.trans (hbj.mono HW.out.size)); clear hbj))
  refine hK.out _ _ ?_ (fun hHeld => ?_)
  · exact ⟨a0, a1, b0, b1, b2, b3, b4, c0, c1, c2, c3, c4⟩
  clear hK K
  refine takeH 30 39 (v := ?q1_v30) rfl rfl (by kernel_rfl) (by kernel_rfl) (by kernel_rfl) (fun _ _ _ h => h) (Or.inl ⟨by rfl, ?q1_h30⟩) (by assumption) ?q1_r30
  case q1_h30 => (intro w hSw; (try dsimp only at hSw); go_simp; try (with_reducible rfl))
  simp only [List.set_cons_zero, List.set_cons_succ]
  refine takeH 31 40 (v := ?q1_v31) rfl rfl (by kernel_rfl) (by kernel_rfl) (by kernel_rfl) (fun _ _ _ h => h) (Or.inl ⟨by rfl, ?q1_h31⟩) (by assumption) ?q1_r31
  case q1_h31 => (intro w hSw; (try dsimp only at hSw); go_simp; try (with_reducible rfl))
  simp only [List.set_cons_zero, List.set_cons_succ]
  refine takeH 32 41 (v := ?q1_v32) rfl rfl (by kernel_rfl) (by kernel_rfl) (by kernel_rfl) (fun _ _ _ h => h) (Or.inl ⟨by rfl, ?q1_h32⟩) (by assumption) ?q1_r32
  case q1_h32 => (intro w hSw; (try dsimp only at hSw); go_simp; try (with_reducible rfl))
  simp only [List.set_cons_zero, List.set_cons_succ]
  refine takeH 33 42 (v := ?q1_v33) rfl rfl (by kernel_rfl) (by kernel_rfl) (by kernel_rfl) (fun _ _ _ h => h) (Or.inl ⟨by rfl, ?q1_h33⟩) (by assumption) ?q1_r33
  case q1_h33 => (intro w hSw; (try dsimp only at hSw); go_simp; try (with_reducible rfl))
  simp only [List.set_cons_zero, List.set_cons_succ]
  refine takeH 35 44 (v := ?q1_v35) rfl rfl (by kernel_rfl) (by kernel_rfl) (by kernel_rfl) (fun _ _ _ h => h) (Or.inl ⟨by rfl, ?q1_h35⟩) (by assumption) ?q1_r35
  case q1_h35 => (intro w hSw; (try dsimp only at hSw); go_simp; try (with_reducible rfl))
  simp only [List.set_cons_zero, List.set_cons_succ]
  refine wpAnyH_ready (rs := [34]) (by kernel_rfl) (by simp) ?_
  refine AllReadyH.cons rfl (fun K hK => ?_) AllReadyH.nil
  go_simp
  go_wp2_with (go_at_call 17; refine (Size_any (Vl.mk an am asA asc ass acA acc acs avA avc avs) _ HB.out.2).mono ?_; rintro e wj ⟨rfl, hbj⟩; (rw [HQ5.out]; replace a0 : World.cell? wj ⟨w.heap.size, 0, none⟩ = some (.int .i64 k0) := (HA.out.1.later hbj).2 0 _ rfl; replace a1 : World.cell? wj ⟨w.heap.size, 1, none⟩ = some (.slice A l.length c) := (HA.out.1.later hbj).2 1 _ rfl; replace b0 : World.cell? wj ⟨w.heap.size + 1, 0, none⟩ = some (.int .u64 an) := (HB.out.1.later hbj).2 0 _ rfl; replace b1 : World.cell? wj ⟨w.heap.size + 1, 1, none⟩ = some (.int .u64 am) := (HB.out.1.later hbj).2 1 _ rfl; replace b2 : World.cell? wj ⟨w.heap.size + 1, 2, none⟩ = some (.slice asA ass.length asc) := (HB.out.1.later hbj).2 2 _ rfl; replace b3 : World.cell? wj ⟨w.heap.size + 1, 3, none⟩ = some (.slice acA acs.length acc) := (HB.out.1.later hbj).2 3 _ rfl; replace b4 : World.cell? wj ⟨w.heap.size + 1, 4, none⟩ = some (.slice avA avs.length avc) := (HB.out.1.later hbj).2 4 _ rfl; replace c0 : World.cell? wj ⟨w.heap.size + 1 + 1, 0, none⟩ = some (.int .u64 bn) := (HC.out.1.later hbj).2 0 _ rfl; replace c1 : World.cell? wj ⟨w.heap.size + 1 + 1, 1, none⟩ = some (.int .u64 bm) := (HC.out.1.later hbj).2 1 _ rfl; replace c2 : World.cell? wj ⟨w.heap.size + 1 + 1, 2, none⟩ = some (.slice bsA bss.length bsc) := (HC.out.1.later hbj).2 2 _ rfl; replace c3 : World.cell? wj ⟨w.heap.size + 1 + 1, 3, none⟩ = some (.slice bcA bcs.length bcc) := (HC.out.1.later hbj).2 3 _ rfl; replace c4 : World.cell? wj ⟨w.heap.size + 1 + 1, 4, none⟩ = some (.slice bvA bvs.length bvc) := (HC.out.1.later hbj).2 4 _ rfl; replace HA := Lib.hid (And.intro (HA.out.1.later hbj) (HA.out.2.later hbj)); replace HB := Lib.hid (And.intro (HB.out.1.later hbj) (HB.out.2.later hbj)); replace HC := Lib.hid (And.intro (HC.out.1.later hbj) (HC.out.2.later hbj)); replace HW := Lib.hid (HW.out.trans (hbj.mono HW.out.size)); clear hbj))
  refine hK.out _ _ ?_ (fun hHeld => ?_)
  · exact ⟨a0, a1, b0, b1, b2, b3, b4, c0, c1, c2, c3, c4⟩
  clear hK K
  refine wpAnyH_ready (rs := [36]) (by kernel_rfl) (by simp) ?_
  refine AllReadyH.cons rfl (fun K hK => ?_) AllReadyH.nil
  go_simp
  go_wp2_with (go_at_call 18; refine (refSize_any (Vl.mk an am asA asc ass acA acc acs avA avc avs) _ HB.out.2).mono ?_; rintro e wj ⟨rfl, hbj⟩; (rw [HQ5.out]; replace a0 : World.cell? wj ⟨w.heap.size, 0, none⟩ = some (.int .i64 k0) := (HA.out.1.later hbj).2 0 _ rfl; replace a1 : World.cell? wj ⟨w.heap.size, 1, none⟩ = some (.slice A l.length c) := (HA.out.1.later hbj).2 1 _ rfl; replace b0 : World.cell? wj ⟨w.heap.size + 1, 0, none⟩ = some (.int .u64 an) := (HB.out.1.later hbj).2 0 _ rfl; replace b1 : World.cell? wj ⟨w.heap.size + 1, 1, none⟩ = some (.int .u64 am) := (HB.out.1.later hbj).2 1 _ rfl; replace b2 : World.cell? wj ⟨w.heap.size + 1, 2, none⟩ = some (.slice asA ass.length asc) := (HB.out.1.later hbj).2 2 _ rfl; replace b3 : World.cell? wj ⟨w.heap.size + 1, 3, none⟩ = some (.slice acA acs.length acc) := (HB.out.1.later hbj).2 3 _ rfl; replace b4 : World.cell? wj ⟨w.heap.size + 1, 4, none⟩ = some (.slice avA avs.length avc) := (HB.out.1.later hbj).2 4 _ rfl; replace c0 : World.cell? wj ⟨w.heap.size + 1 + 1, 0, none⟩ = some (.int .u64 bn) := (HC.out.1.later hbj).2 0 _ rfl; replace c1 : World.cell? wj ⟨w.heap.size + 1 + 1, 1, none⟩ = some (.int .u64 bm) := (HC.out.1.later hbj).2 1 _ rfl; replace c2 : World.cell? wj ⟨w.heap.size + 1 + 1, 2, none⟩ = some (.slice bsA bss.length bsc) := (HC.out.1.later hbj).2 2 _ rfl; replace c3 : World.cell? wj ⟨w.heap.size + 1 + 1, 3, none⟩ = some (.slice bcA bcs.length bcc) := (HC.out.1.later hbj).2 3 _ rfl; replace c4 : World.cell? wj ⟨w.heap.size + 1 + 1, 4, none⟩ = some (.slice bvA bvs.length bvc) := (HC.out.1.later hbj).2 4 _ rfl; replace HA := Lib.hid (And.intro (HA.out.1.later hbj) (HA.out.2.later hbj)); replace HB := Lib.hid (And.intro (HB.out.1.later hbj) (HB.out.2.later hbj)); replace HC := Lib.hid (And.intro (HC.out.1.later hbj) (HC.out.2.later hbj)); replace HW := Lib.hid (HW.out.trans (hbj.mono HW.out.size)); clear hbj))
  refine hK.out _ _ ?_ (fun hHeld => ?_)
  · exact ⟨a0, a1, b0, b1, b2, b3, b4, c0, c1, c2, c3, c4⟩
  clear hK K
  refine takeH 37 46 (v := ?q1_v37) rfl rfl (by kernel_rfl) (by kernel_rfl) (by kernel_rfl) (fun _ _ _ h => h) (Or.inl ⟨by rfl, ?q1_h37⟩) (by assumption) ?q1_r37
  case q1_h37 => (intro w hSw; (try dsimp only at hSw); go_simp; try (with_reducible rfl))
  simp only [List.set_cons_zero, List.set_cons_succ]
  refine takeH 38 47 (v := ?q1_v38) rfl rfl (by kernel_rfl) (by kernel_rfl) (by kernel_rfl) (fun _ _ _ h => h) (Or.inl ⟨by rfl, ?q1_h38⟩) (by assumption) ?q1_r38
  case q1_h38 => (intro w hSw; (try dsimp only at hSw); go_simp; try (with_reducible rfl))
  simp only [List.set_cons_zero, List.set_cons_succ]
  refine takeH 39 6 (v := ?q1_v39) rfl rfl (by kernel_rfl) (by kernel_rfl) (by kernel_rfl) (fun _ _ _ h => h) (Or.inl ⟨by rfl, ?q1_h39⟩) (by assumption) ?q1_r39
  case q1_h39 => (intro w hSw; (try dsimp only at hSw); go_simp; try (with_reducible rfl))
  simp only [List.set_cons_zero, List.set_cons_succ]
  refine wpAnyH_done (by kernel_rfl) ?_ _
  refine NoPanic.normal ?_
  go_wp2_with fail
  go_ret
  exact ⟨rfl, HW.out⟩
end Go.Proofs.Ytcpfjjimbnmaoaa.V4

namespace Go.Proofs.Ytcpfjjimbnmaoaa.S2
open Go.ChangeShapes Go.WideShapes Go.ChangeAt Go.RowKit Go.Deep

theorem Try.own : ownKnob Try.prog.godebug = none := by kernel_rfl
theorem Try.laidOut : laidOutB Try.prog = true := by kernel_rfl
theorem Try.cellsInt : Try.prog.cellsOf 3 = 1 := by kernel_rfl
theorem Try.cellsSl : Try.prog.cellsOf 22 = 1 := by kernel_rfl
theorem Try.cellsSch : Try.prog.cellsOf 24 = 2 := by kernel_rfl
theorem Try.bytesSch : Try.prog.bytesOf 24 = 32 := by kernel_rfl

instance : Inhabited Sc := ⟨.mk 0 none 0 []⟩

theorem weightsAll_mem {H : Type} {P : Program} {e : TypeId} {d : DataW H} {n : Nat} : ∀ {ds : List (DataW H)}, d ∈ ds → n ∈ d.weights P e → n ∈ DataW.weightsAll P e ds
  | x :: ds, h, hn => by
    rw [DataW.weightsAll, List.mem_append]
    rcases List.mem_cons.1 h with rfl | h
    · exact .inl hn
    · exact .inr (weightsAll_mem h hn)

section
variable {H : Type} {enc : TypeId × Value → H} {W : World}

theorem open_schL (m : Nat) : ∀ (d : DataW H) (fuel : Nat) (v : Value) (ps : List MemPlace), SizeOf.sizeOf d ≤ m → DataW.trod enc Try.prog W 0 (fun _ => true) true fuel 22 [v] = some (d, ps) →
    (∀ n ∈ d.weights Try.prog 22, n ≤ reachBytes) → ∃ A c l, v = .slice A l.length c ∧ ∀ k, (Sc.mk k A c l).In W.heap.size W := by
  induction m with
  | zero =>
    intro d fuel v ps hm
    cases d <;> simp at hm
  | succ m ih =>
    intro d fuel v ps hm h hw
    rcases open_slice_pairs Try.underlying22 Try.underlying24 Try.cellsSch rfl rfl Try.cellsInt Try.cellsSl h with ⟨h1, h2⟩ | ⟨a, len, cap, mm, n, V0, V1, D0, D1, P0, P1, h1, hb, hl, hcm, hmm, h2, hx⟩
    · cases h1
      exact ⟨none, 0, [], rfl, fun k => .mk _ _ _ _ LiesP.nil (by simp) (by simp) (by simp) (by simp)⟩
    · cases h1
      rw [if_pos rfl] at hmm
      subst hmm
      have hd : d = .slice ((List.range len).map fun i => .agg [D0 i, D1 i]) ((List.range (mm - len)).map fun j => .agg [D0 (len + j), D1 (len + j)]) := (Prod.mk.inj h2).1
      have hel : ∀ i, i < len → (DataW.agg [D0 i, D1 i]) ∈ (List.range len).map fun i => (DataW.agg [D0 i, D1 i] : DataW H) := fun i hi => List.mem_map.2 ⟨i, List.mem_range.2 hi, rfl⟩
      have hsz : len * 32 ≤ 140737488351232 := by
        have := hw ((len + (mm - len)) * 32) (by rw [hd, DataW.weights, Try.underlying22]; simp [Try.bytesSch])
        unfold reachBytes at this
        omega
      have each : ∀ i, i < len → ∃ s : Sc, V0 i = .int .i64 s.k ∧ V1 i = s.v1 ∧ s.In W.heap.size W := by
        intro i hi
        obtain ⟨-, -, t0, t1⟩ := hx i (by omega)
        obtain ⟨k, hk, -, -⟩ := DataW.trod_int Try.underlying3 t0
        have hlt : SizeOf.sizeOf (D1 i) ≤ m := by
          have h3 := List.sizeOf_lt_of_mem (hel i hi)
          have h4 : SizeOf.sizeOf (D1 i) < SizeOf.sizeOf (DataW.agg [D0 i, D1 i]) := by simp; omega
          have h5 : SizeOf.sizeOf ((List.range len).map fun i => (DataW.agg [D0 i, D1 i] : DataW H)) < SizeOf.sizeOf d := by rw [hd]; simp; omega
          omega
        obtain ⟨A, c, l, hv, hin⟩ := ih (D1 i) n (V1 i) (P1 i) hlt t1 (fun q hq => hw q (by
          rw [hd, DataW.weights, Try.underlying22]
          refine List.mem_cons_of_mem _ (List.mem_append.2 (.inl (weightsAll_mem (hel i hi) ?_)))
          rw [DataW.weights, Try.underlying24]
          simp [DataW.weightsEach, hq]))
        exact ⟨.mk k A c l, by simpa [Sc.k] using hk, hv, hin k⟩
      obtain ⟨f, hf⟩ := choose_lt each
      refine ⟨some a, mm, (List.range len).map f, by simp, fun k => ?_⟩
      refine .mk _ _ _ _ ?_ (by simpa using hl) (by unfold maxLen at hcm; omega) (by simpa using hsz) ?_
      · by_cases h0 : len = 0
        · subst h0; exact .inl rfl
        · obtain ⟨b, off, spot⟩ := a
          have hc0 := (hx 0 (by omega)).1
          have hspot : spot = none := by simpa [Addr.add] using World.cell?_spot hc0
          subst hspot
          have hblt : b < W.heap.size := World.block_lt_of_cell? W _ (by simpa [Addr.add] using hc0)
          refine .inr ⟨b, off, rfl, hblt, fun i x hx' => ?_⟩
          rw [List.getElem?_map] at hx'
          have hi : i < len := by
            rcases Nat.lt_or_ge i len with h | h
            · exact h
            · rw [List.getElem?_eq_none (by simpa using h)] at hx'; cases hx'
          rw [List.getElem?_range hi] at hx'
          have hxe : f i = x := by simpa using hx'
          obtain ⟨g0, g1, -, -⟩ := hx i (by omega)
          rw [Addr.add_lit] at g0 g1
          obtain ⟨e0, e1, -⟩ := hf i hi
          rw [← hxe, ← e0, ← e1]
          exact ⟨g0, by rw [Nat.add_assoc]; exact g1⟩
      · intro x hx'
        obtain ⟨i, hi, rfl⟩ := List.mem_map.1 hx'
        exact (hf i (List.mem_range.1 hi)).2.2

set_option maxRecDepth 100000 in
theorem open_sch {base : Nat} {v : Value} {d : DataW H} {ps : List MemPlace} (hok : Value.okWide Try.prog W .any base 24 v) (h : DataW.Trod enc Try.prog W 0 (fun _ => true) true 24 v d ps)
    (hw : ∀ n ∈ d.weights Try.prog 24, n ≤ reachBytes) : ∃ s : Sc, v = s.val ∧ s.In W.heap.size W := by
  obtain ⟨cs, rfl, hcs⟩ := okWide_struct Try.underlying24 hok
  rw [Try.cellsSch] at hcs
  obtain ⟨fuel, hf⟩ := h
  obtain ⟨xs, n, -, hx, -, hxl, hfs⟩ := DataW.trod_struct Try.underlying24 hf
  obtain ⟨cl⟩ := cs
  match cl, hcs, xs, hxl with
  | [v0, v1], _, [y0, y1], _ =>
    have g0 := hfs 0 _ rfl
    have g1 := hfs 1 _ rfl
    simp [Try.cellsInt, Try.cellsSl, Value.cells] at g0 g1
    obtain ⟨k, hk, -, -⟩ := DataW.trod_int Try.underlying3 g0
    have hd : d = .agg [y0.1, y1.1] := by simpa using (Prod.mk.inj hx).1
    obtain ⟨A, c, l, hv, hin⟩ := open_schL (SizeOf.sizeOf y1.1) y1.1 n v1 y1.2 (Nat.le_refl _) g1 (fun q hq => hw q (by
      rw [hd, DataW.weights, Try.underlying24]
      simp [DataW.weightsEach, hq]))
    have hk' : v0 = .int .i64 k := by simpa using hk
    exact ⟨.mk k A c l, by rw [hk', hv]; rfl, hin k⟩
end
end Go.Proofs.Ytcpfjjimbnmaoaa.S2

namespace Go.Proofs.Ytcpfjjimbnmaoaa.V4
open Go.ChangeShapes Go.WideShapes Go.ChangeAt Go.RowKit Go.Deep
open C3 (Tk Nok)

theorem flatMap_at {α β : Type} {f : α → List β} {k : Nat} (hk : ∀ x, (f x).length = k) (h0 : 0 < k) : ∀ {l : List α} {p : Nat} {u : β}, (l.flatMap f)[p]? = some u → ∃ x, l[p / k]? = some x ∧ (f x)[p % k]? = some u
  | [], p, u, h => by simp at h
  | x :: l, p, u, h => by
    rw [List.flatMap_cons] at h
    by_cases hp : p < k
    · rw [List.getElem?_append_left (by rw [hk]; exact hp)] at h
      refine ⟨x, ?_, by rw [Nat.mod_eq_of_lt hp]; exact h⟩
      rw [Nat.div_eq_of_lt hp]
      rfl
    · rw [List.getElem?_append_right (by rw [hk]; omega), hk] at h
      obtain ⟨y, h1, h2⟩ := flatMap_at hk h0 h
      have e1 : p / k = (p - k) / k + 1 := by rw [Nat.div_eq_sub_div h0 (by omega)]
      have e2 : p % k = (p - k) % k := by rw [Nat.mod_eq_sub_mod (by omega)]
      exact ⟨y, by rw [e1]; simpa using h1, by rw [e2]; exact h2⟩

theorem wAll_mem {H : Type} {P : Program} {e : TypeId} {d : DataW H} {n : Nat} : ∀ {ds : List (DataW H)}, d ∈ ds → n ∈ d.weights P e → n ∈ DataW.weightsAll P e ds
  | x :: ds, h, hn => by
    rw [DataW.weightsAll, List.mem_append]
    rcases List.mem_cons.1 h with rfl | h
    · exact .inl hn
    · exact .inr (wAll_mem h hn)

section
variable {H : Type} {enc : TypeId × Value → H} {W : World}

set_option maxRecDepth 100000 in
/-- A slice that came in: what lies in it, one by one. -/
theorem open_row {α : Type} [Inhabited α] {t e : TypeId} (k bytes : Nat) (f : α → List Value) (hk : ∀ x, (f x).length = k) (h0 : 0 < k) (ht : Try.prog.underlying t = some (.slice e)) (hc : Try.prog.cellsOf e = k) (hby : Try.prog.bytesOf e = bytes) (Q : α → Prop)
    {d : DataW H} {fuel : Nat} {v : Value} {ps : List MemPlace} (h : DataW.trod enc Try.prog W 0 (fun _ => true) true fuel t [v] = some (d, ps)) (hw : ∀ n ∈ d.weights Try.prog t, n ≤ reachBytes)
    (each : ∀ (dd : DataW H) (fuel' : Nat) (cs' : List Value) (ps' : List MemPlace), SizeOf.sizeOf dd < SizeOf.sizeOf d → cs'.length = k → DataW.trod enc Try.prog W 0 (fun _ => true) true fuel' e cs' = some (dd, ps') → (∀ n ∈ dd.weights Try.prog e, n ≤ reachBytes) → ∃ x : α, cs' = f x ∧ Q x) :
    ∃ (A : Option Addr) (c : Nat) (l : List α), v = .slice A l.length c ∧ LiesC (fun b => b < W.heap.size) W A (l.flatMap f) ∧ (l.length ≤ c ∧ c ≤ maxLen ∧ l.length * bytes ≤ 140737488351232) ∧ ∀ x ∈ l, Q x := by
  rcases open_slice ht h with ⟨h1, _⟩ | ⟨a, len, cap, mm, n, D, Pl, h1, hb, hl, hcm, hmm, h2, hx⟩
  · cases h1
    exact ⟨none, 0, [], rfl, .inl rfl, ⟨by simp, by simp [maxLen], by simp⟩, by simp⟩
  · cases h1
    rw [if_pos rfl] at hmm
    subst hmm
    have hd : d = .slice ((List.range len).map D) ((List.range (mm - len)).map fun j => D (len + j)) := (Prod.mk.inj h2).1
    have hel : ∀ i, i < len → D i ∈ (List.range len).map D := fun i hi => List.mem_map.2 ⟨i, List.mem_range.2 hi, rfl⟩
    have hsz : len * bytes ≤ 140737488351232 := by
      have := hw ((len + (mm - len)) * bytes) (by rw [hd, DataW.weights, ht]; simp [hby])
      unfold reachBytes at this
      have h3 : len * bytes ≤ (len + (mm - len)) * bytes := Nat.mul_le_mul_right _ (by omega)
      omega
    have all : ∀ i, i < len → ∃ x : α, W.cells? 0 (a.add (i * k)) k = some (f x) ∧ Q x := by
      intro i hi
      obtain ⟨cs', hcc, htr⟩ := hx i (by omega)
      rw [hc] at hcc
      obtain ⟨x, rfl, hq⟩ := each (D i) n cs' (Pl i) (by
        have h3 := List.sizeOf_lt_of_mem (hel i hi)
        rw [hd]
        simp
        omega) (World.cells?_some hcc).2.1 htr (fun q hq => hw q (by
          rw [hd, DataW.weights, ht]
          exact List.mem_cons_of_mem _ (List.mem_append.2 (.inl (wAll_mem (hel i hi) hq)))))
      exact ⟨x, hcc, hq⟩
    obtain ⟨g, hg⟩ := choose_lt all
    refine ⟨some a, mm, (List.range len).map g, by simp, ?_, ⟨by simpa using hl, hcm, by simpa using hsz⟩, ?_⟩
    · by_cases hz : len = 0
      · subst hz; exact .inl rfl
      · have hone : ∀ i, i < len → ∀ j u, (f (g i))[j]? = some u → W.cell? ((a.add (i * k)).add j) = some u := by
          intro i hi j u hu
          have hjl : j < k := by rw [← hk (g i)]; exact (List.getElem?_eq_some_iff.1 hu).1
          rw [(World.cells?_some (hg i hi).1).2.2 j hjl, hu]
        obtain ⟨u0, hu0⟩ : ∃ u, (f (g 0))[0]? = some u := ⟨_, List.getElem?_eq_getElem (by rw [hk]; exact h0)⟩
        have hc0 := hone 0 (by omega) 0 u0 hu0
        obtain ⟨b, off, spot⟩ := a
        have hspot : spot = none := by simpa [Addr.add] using World.cell?_spot hc0
        subst hspot
        have hblt : b < W.heap.size := World.block_lt_of_cell? W _ (by simpa [Addr.add] using hc0)
        refine .inr ⟨b, off, rfl, hblt, fun p u hu => ?_⟩
        obtain ⟨x, hx1, hx2⟩ := flatMap_at hk h0 hu
        rw [List.getElem?_map] at hx1
        have hi : p / k < len := by
          rcases Nat.lt_or_ge (p / k) len with h | h
          · exact h
          · rw [List.getElem?_eq_none (by simpa using h)] at hx1; cases hx1
        rw [List.getElem?_range hi] at hx1
        have hxe : g (p / k) = x := by simpa using hx1
        have := hone (p / k) hi (p % k) u (by rw [hxe]; exact hx2)
        rw [Addr.add_lit, Addr.add_lit] at this
        rw [← this]
        congr 2
        have := Nat.div_add_mod p k
        rw [Nat.mul_comm] at this
        omega
    · intro x hx'
      obtain ⟨i, hi, rfl⟩ := List.mem_map.1 hx'
      exact (hg i (List.mem_range.1 hi)).2
end
end Go.Proofs.Ytcpfjjimbnmaoaa.V4
